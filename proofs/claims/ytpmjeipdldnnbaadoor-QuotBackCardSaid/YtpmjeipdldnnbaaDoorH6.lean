/-
  Texts glued together for a claim: R8 R9 J1 J2 P4 U4 U5 U6 U7 P5 J3 J4 J6.
-/
import Derived.Test.YtpmjeipdldnnbaaDoorH5
/-
  Package round: Part.
-/
namespace Go.Proofs.YtpmjeipdldnnbaaDoor
set_option linter.unusedVariables false
set_option linter.unusedSimpArgs false
open Go.RowKit
set_option linter.unusedVariables false
set_option linter.unusedSimpArgs false
namespace RC
open L NC NK DC
open Z (Nz Tz cmpv)
def az (c d : Dy) : Int := nz (ng c) (ng d) (c.m.natAbs : Int) (d.m.natAbs : Int)
def ax (c d : Dy) : Int := nx (c.m.natAbs : Int) (d.m.natAbs : Int) c.x
def bz (c d : Dy) : Bool := nb (ng c) (ng d) (c.m.natAbs : Int) (d.m.natAbs : Int)
def PE (c d : Dy) (mode : Int) : Int := if c.er ≠ 0 then c.er else if d.er ≠ 0 then d.er else if ¬ ((0 ≤ mode ∧ mode ≤ 4) ∧ isdir d = true) then 1 else if 4294967296 ^ 390 ≤ (c.m.natAbs : Int) then 2 else 0
noncomputable def PX (c d : Dy) (mode : Int) : Int := if PE c d mode = 0 then rx (bz c d) (YY (bz c d) (sc (az c d) (ax c d)) mode) else 0
noncomputable def PL (c d : Dy) (mode : Int) : Bool := if PE c d mode = 0 then LL (sc (az c d) (ax c d)) else false
theorem limbs_390 {w : World} {A : Option Addr} {n c : Nat} {z : Int} (h : NV w (.slice A n c) z) : 390 < n ↔ 4294967296 ^ 390 ≤ z := by
  obtain ⟨l, h1, h2, h3, h4⟩ := h
  have en := h1.len_.1
  rw [en]
  constructor
  · intro h
    have hne : l ≠ [] := by rintro rfl; simp at h
    have := lv_ge h2 h3 hne
    have h5 : (4294967296 : Int) ^ 390 ≤ 4294967296 ^ (l.length - 1) := pow_mono (by omega)
    rw [← h4]; exact Int.le_trans h5 this
  · intro h
    rcases Nat.lt_or_ge 390 l.length with h5 | h5
    · exact h5
    · have a1 := lv_lt h2
      have a2 : (4294967296 : Int) ^ l.length ≤ 4294967296 ^ 390 := pow_mono h5
      rw [h4] at a1
      have := Int.lt_of_lt_of_le a1 a2
      omega
theorem nz_bd {b1 b2 : Bool} {z1 z2 : Int} (h0 : 0 ≤ z1) (h1 : z1 < 4294967296 ^ 390) (h2 : z2 = 0 ∨ z2 = 1) : 0 ≤ nz b1 b2 z1 z2 ∧ nz b1 b2 z1 z2 < 4294967296 ^ 400 := by
  have h3 : (4294967296 : Int) ^ 392 = 4294967296 ^ 390 * 18446744073709551616 := by rw [show (18446744073709551616 : Int) = 4294967296 ^ 2 by decide, ← Int.pow_add]
  have h4 : (4294967296 : Int) ^ 393 = 4294967296 ^ 392 * 4294967296 := Int.pow_succ _ _
  have h5 : (4294967296 : Int) ^ 393 ≤ 4294967296 ^ 400 := pow_mono (by decide)
  have h6 := pow_pos 390
  generalize (4294967296 : Int) ^ 400 = c400 at *
  generalize (4294967296 : Int) ^ 393 = c393 at *
  generalize (4294967296 : Int) ^ 392 = c392 at *
  generalize (4294967296 : Int) ^ 390 = c390 at *
  unfold nz
  split
  · omega
  · split
    · omega
    · split <;> omega
theorem isdir_z {d : Dy} (h : isdir d = true) : ((d.m.natAbs : Int) = 0 ∨ (d.m.natAbs : Int) = 1) := by
  unfold isdir at h
  rw [decide_eq_true_iff] at h
  omega
theorem nx_bd {z1 z2 x : Int} (h : -10000 ≤ x ∧ x ≤ 10000) : -20000 ≤ nx z1 z2 x ∧ nx z1 z2 x ≤ 20000 := by
  unfold nx; split
  · omega
  · split <;> omega
theorem tow_part {c d : Dy} (hc : Ok c) (h : isdir d = true) (hs : (c.m.natAbs : Int) < 4294967296 ^ 390) : ∃ r hf m, Tow (sc (az c d) (ax c d)) r hf m ∧ tow (sc (az c d) (ax c d)) = (r, hf, m) := by
  have k := nz_bd (b1 := ng c) (b2 := ng d) (by omega) hs (isdir_z h)
  obtain ⟨r, hf, m, t⟩ := tow_ex k.1 k.2 (nx_bd (z1 := (c.m.natAbs : Int)) (z2 := (d.m.natAbs : Int)) hc.2.2.2.2)
  exact ⟨r, hf, m, t, tow_eq t⟩
set_option maxRecDepth 100000 in
set_option maxHeartbeats 8000000 in
theorem Part_d (u v : Value) (c d : Dy) (mode : Int) (w : World) (h1 : DV w u c) (h2 : DV w v d) (hT : TabD w) : Calls Tryd.prog 100 #[u, v, .int .i64 mode] w (DC.RetB w (.tuple #[.int .u64 (PX c d mode), .bool (PL c d mode), .int .i64 (PE c d mode)])) := by
  have C1 : ∀ W, Below w.heap.size w W → Calls Tryd.prog 68 #[u] W (DC.RetB W (.int .i64 c.er)) := fun W hW => Check_d u c W (h1.below hW)
  have C2 : ∀ W, Below w.heap.size w W → Calls Tryd.prog 68 #[v] W (DC.RetB W (.int .i64 d.er)) := fun W hW => Check_d v d W (h2.below hW)
  obtain ⟨ba, Aa, na, ca, xa, la, rfl, -, -, -, -, g1, -⟩ := h1
  obtain ⟨bb, Ab, nb, cb, xb, lb, rfl, -, -, -, -, g2, -⟩ := h2
  obtain ⟨N1, N2, NS, D0⟩ := new2 w 35 35 #[.bool ba, .slice Aa na ca, .int .i64 xa] #[.bool bb, .slice Ab nb cb, .int .i64 xb] 0
  rw [World.drewN_zero] at N1 N2 NS D0
  obtain ⟨W0, hW0⟩ : ∃ W0, (w.alloc (.cells #[.bool ba, .slice Aa na ca, .int .i64 xa] 35)).alloc (.cells #[.bool bb, .slice Ab nb cb, .int .i64 xb] 35) = W0 := ⟨_, rfl⟩
  rw [hW0] at N1 N2 D0
  have KB : Hid (∀ W, Below W0.heap.size W0 W → BX W w.heap.size ba Aa na ca xa ∧ BX W (w.heap.size + 1) bb Ab nb cb xb) := fun W hW => ⟨BX.of (N1.below hW N1.lt), BX.of (N2.below hW N2.lt)⟩
  have C1 := Lib.hid (C1 W0 D0)
  have C2 : Hid (∀ W, Below W0.heap.size W0 W → Calls Tryd.prog 68 #[.agg #[.bool bb, .slice Ab nb cb, .int .i64 xb]] W (DC.RetB W (.int .i64 d.er))) := fun W hW => C2 W (D0.trans (hW.mono D0.size))
  have IM : Hid (∀ W, Calls Tryd.prog 76 #[.int .i64 mode] W (fun e w' => e = .returned (.bool (decide (0 ≤ mode ∧ mode ≤ 4))) ∧ W = w')) := fun W => isMode_c mode W
  have HW0 := Lib.hid hW0
  unfold PX PL
  obtain ⟨E0, hE0⟩ : ∃ E0, PE c d mode = E0 := ⟨_, rfl⟩
  rw [hE0]
  unfold PE at hE0
  obtain ⟨E, hE⟩ : ∃ E, c.er = E := ⟨_, rfl⟩
  obtain ⟨F', hF⟩ : ∃ F, d.er = F := ⟨_, rfl⟩
  rw [hE] at C1 hE0
  rw [hF] at C2 hE0
  by_cases h0 : E = 0
  · have t1 : (E != 0) = false := by simp [h0]
    rw [if_neg (by simpa using h0)] at hE0
    by_cases k0 : F' = 0
    · have t2 : (F' != 0) = false := by simp [k0]
      rw [if_neg (by simpa using k0)] at hE0
      have ga := g1 (hE.trans h0)
      have gb := g2 (hF.trans k0)
      have ID : Hid (∀ W, Below W0.heap.size W0 W → Calls Tryd.prog 121 #[.agg #[.bool bb, .slice Ab nb cb, .int .i64 xb]] W (DC.RetB W (.bool (isdir d)))) := fun W hW => isDirection_c bb Ab nb cb xb d W ((gb.below D0).below hW)
      by_cases hm : 0 ≤ mode ∧ mode ≤ 4
      · rw [decide_eq_true hm] at IM
        by_cases hd : isdir d = true
        · rw [if_neg (by simp [hm, hd])] at hE0
          have hl := limbs_390 ga.1
          by_cases hb : 4294967296 ^ 390 ≤ (c.m.natAbs : Int)
          · rw [if_pos hb] at hE0
            subst hE0
            have t3 : (na : Int) > 390 := by have := hl.2 hb; omega
            rw [hd] at ID
            rw [if_neg (by decide), if_neg (by decide)]
            have D0 := Lib.hid D0
            clear h0 k0 hE hF hW0 g1 g2 hT hm hd hl hb ga gb N1 N2 NS
            go_enter Tryd.func100, Tryd.ntmps100
            go_wp2_with (first
              | (go_at_call 68; rw [HW0.out]; (with_reducible refine (C1.out).mono ?_); rintro e w2 ⟨rfl, hb0⟩; have D := Lib.hid hb0; obtain ⟨⟨p0, p1, p2⟩, q0, q1, q2⟩ := KB.out _ D.out)
              | (go_at_call 68; (with_reducible refine (C2.out _ D.out).mono ?_); rintro e w3 ⟨rfl, hb0⟩; have D := Lib.hid (D.out.trans (hb0.mono D.out.size)); obtain ⟨⟨p0, p1, p2⟩, q0, q1, q2⟩ := KB.out _ D.out)
              | (go_at_call 76; (with_reducible refine (IM.out _).mono ?_); rintro e w4 ⟨rfl, rfl⟩)
              | (go_at_call 121; (with_reducible refine (ID.out _ D.out).mono ?_); rintro e w5 ⟨rfl, hb0⟩; have D := Lib.hid (D.out.trans (hb0.mono D.out.size)); obtain ⟨⟨p0, p1, p2⟩, q0, q1, q2⟩ := KB.out _ D.out))
            go_ret3
            exact ⟨rfl, D0.out.trans (D.out.mono D0.out.size)⟩
          · rw [if_neg hb] at hE0
            subst hE0
            have hs : (c.m.natAbs : Int) < 4294967296 ^ 390 := by omega
            have t3 : ¬ (na : Int) > 390 := by intro h; exact hb (hl.1 (by omega))
            have hok : Ok c := ⟨ga.2.2.2.1, ga.2.2.2.2⟩
            obtain ⟨r, hf, m, t, et⟩ := tow_part hok hd hs
            have hz := isdir_z hd
            have hx := ga.2.2.2.2.2.2.2
            have NU : Hid (∀ W, Below W0.heap.size W0 W → Calls Tryd.prog 122 #[.agg #[.bool ba, .slice Aa na ca, .int .i64 xa], .agg #[.bool bb, .slice Ab nb cb, .int .i64 xb]] W (RetN W (bz c d) (az c d) (ax c d))) := fun W hW => by
              have := nudge_c ba bb Aa Ab na ca nb cb xa xb _ _ W ((ga.pv.below D0).below hW) ((gb.pv.below D0).below hW) hs hz (by rw [ga.2.2.1]; exact hx)
              rw [ga.2.1, gb.2.1, ga.2.2.1] at this ⊢
              exact this
            have NM : Hid (∀ W A n c', Below W0.heap.size W0 W → PV W (.slice A n c') 0 (az c d) → Calls Tryd.prog 77 #[.agg #[.bool (bz c d), .slice A n c', .int .i64 (ax c d)], .int .i64 mode] W (DC.RetB W (.tuple #[.int .u64 (rx (bz c d) (YY (bz c d) (sc (az c d) (ax c d)) mode)), .bool (LL (sc (az c d) (ax c d)))]))) := fun W A n c' hW hp => by
              have := number_c (bz c d) A n c' (ax c d) (az c d) r mode hf m W hp (nx_bd hx) t ((hT.below D0).below hW)
              unfold YY LL
              rw [et]
              exact this
            rw [hd] at ID
            rw [if_pos rfl, if_pos rfl]
            generalize rx (bz c d) (YY (bz c d) (sc (az c d) (ax c d)) mode) = X at *
            generalize LL (sc (az c d) (ax c d)) = Lo at *
            generalize bz c d = vb at *
            generalize az c d = vz at *
            generalize ax c d = vx at *
            have D0 := Lib.hid D0
            clear h0 k0 hE hF hW0 g1 g2 hT hm hd hl hb ga gb N1 N2 NS t et hz hx hs hok
            go_enter Tryd.func100, Tryd.ntmps100
            go_wp2_with (first
              | (go_at_call 68; rw [HW0.out]; (with_reducible refine (C1.out).mono ?_); rintro e w2 ⟨rfl, hb0⟩; have D := Lib.hid hb0; obtain ⟨⟨p0, p1, p2⟩, q0, q1, q2⟩ := KB.out _ D.out)
              | (go_at_call 68; (with_reducible refine (C2.out _ D.out).mono ?_); rintro e w3 ⟨rfl, hb0⟩; have D := Lib.hid (D.out.trans (hb0.mono D.out.size)); obtain ⟨⟨p0, p1, p2⟩, q0, q1, q2⟩ := KB.out _ D.out)
              | (go_at_call 76; (with_reducible refine (IM.out _).mono ?_); rintro e w4 ⟨rfl, rfl⟩)
              | (go_at_call 121; (with_reducible refine (ID.out _ D.out).mono ?_); rintro e w5 ⟨rfl, hb0⟩; have D := Lib.hid (D.out.trans (hb0.mono D.out.size)); obtain ⟨⟨p0, p1, p2⟩, q0, q1, q2⟩ := KB.out _ D.out)
              | (go_at_call 122; (with_reducible refine (NU.out _ D.out).mono ?_); rintro e w6 ⟨A6, n6, c6, rfl, hp6, hb0⟩; have D := Lib.hid (D.out.trans (hb0.mono D.out.size)))
              | (go_at_call 77; (with_reducible refine (NM.out _ _ _ _ D.out hp6).mono ?_); rintro e w7 ⟨rfl, hb0⟩; have D := Lib.hid (D.out.trans (hb0.mono D.out.size))))
            go_ret3
            exact ⟨rfl, D0.out.trans (D.out.mono D0.out.size)⟩
        · rw [if_pos (fun h => hd h.2)] at hE0
          subst hE0
          rw [if_neg (by decide), if_neg (by decide)]
          rw [show isdir d = false by simpa using hd] at ID
          have D0 := Lib.hid D0
          clear h0 k0 hE hF hW0 g1 g2 hT hm hd ga gb N1 N2 NS
          go_enter Tryd.func100, Tryd.ntmps100
          go_wp2_with (first
            | (go_at_call 68; rw [HW0.out]; (with_reducible refine (C1.out).mono ?_); rintro e w2 ⟨rfl, hb0⟩; have D := Lib.hid hb0; obtain ⟨⟨p0, p1, p2⟩, q0, q1, q2⟩ := KB.out _ D.out)
            | (go_at_call 68; (with_reducible refine (C2.out _ D.out).mono ?_); rintro e w3 ⟨rfl, hb0⟩; have D := Lib.hid (D.out.trans (hb0.mono D.out.size)); obtain ⟨⟨p0, p1, p2⟩, q0, q1, q2⟩ := KB.out _ D.out)
            | (go_at_call 76; (with_reducible refine (IM.out _).mono ?_); rintro e w4 ⟨rfl, rfl⟩)
            | (go_at_call 121; (with_reducible refine (ID.out _ D.out).mono ?_); rintro e w5 ⟨rfl, hb0⟩; have D := Lib.hid (D.out.trans (hb0.mono D.out.size))))
          go_ret3
          exact ⟨rfl, D0.out.trans (D.out.mono D0.out.size)⟩
      · rw [if_pos (fun h => hm h.1)] at hE0
        subst hE0
        rw [if_neg (by decide), if_neg (by decide)]
        rw [decide_eq_false hm] at IM
        have D0 := Lib.hid D0
        clear h0 k0 hE hF hW0 g1 g2 hT hm ga gb N1 N2 NS
        go_enter Tryd.func100, Tryd.ntmps100
        go_wp2_with (first
          | (go_at_call 68; rw [HW0.out]; (with_reducible refine (C1.out).mono ?_); rintro e w2 ⟨rfl, hb0⟩; have D := Lib.hid hb0; obtain ⟨⟨p0, p1, p2⟩, q0, q1, q2⟩ := KB.out _ D.out)
          | (go_at_call 68; (with_reducible refine (C2.out _ D.out).mono ?_); rintro e w3 ⟨rfl, hb0⟩; have D := Lib.hid (D.out.trans (hb0.mono D.out.size)); obtain ⟨⟨p0, p1, p2⟩, q0, q1, q2⟩ := KB.out _ D.out)
          | (go_at_call 76; (with_reducible refine (IM.out _).mono ?_); rintro e w4 ⟨rfl, rfl⟩))
        go_ret3
        exact ⟨rfl, D0.out.trans (D.out.mono D0.out.size)⟩
    · have t2 : (F' != 0) = true := by simp [k0]
      rw [if_pos k0] at hE0
      subst hE0
      rw [if_neg k0, if_neg k0]
      have D0 := Lib.hid D0
      clear h0 k0 hE hF hW0 g1 g2 hT N1 N2 NS
      go_enter Tryd.func100, Tryd.ntmps100
      go_wp2_with (first
        | (go_at_call 68; rw [HW0.out]; (with_reducible refine (C1.out).mono ?_); rintro e w2 ⟨rfl, hb0⟩; have D := Lib.hid hb0; obtain ⟨⟨p0, p1, p2⟩, q0, q1, q2⟩ := KB.out _ D.out)
        | (go_at_call 68; (with_reducible refine (C2.out _ D.out).mono ?_); rintro e w3 ⟨rfl, hb0⟩; have D := Lib.hid (D.out.trans (hb0.mono D.out.size))))
      go_ret3
      exact ⟨rfl, D0.out.trans (D.out.mono D0.out.size)⟩
  · have t1 : (E != 0) = true := by simp [h0]
    rw [if_pos h0] at hE0
    subst hE0
    rw [if_neg h0, if_neg h0]
    have D0 := Lib.hid D0
    clear h0 hE hF hW0 g1 g2 hT N1 N2 NS
    go_enter Tryd.func100, Tryd.ntmps100
    go_wp2_with (first
      | (go_at_call 68; rw [HW0.out]; (with_reducible refine (C1.out).mono ?_); rintro e w2 ⟨rfl, hb0⟩; have D := Lib.hid hb0))
    go_ret3
    exact ⟨rfl, D0.out.trans (D.out.mono D0.out.size)⟩
end RC
end Go.Proofs.YtpmjeipdldnnbaaDoor

/-
  Rounding, pure: a part more, a part less.
-/
namespace Go.Proofs.YtpmjeipdldnnbaaDoor
set_option linter.unusedVariables false
set_option linter.unusedSimpArgs false
open Go.RowKit
set_option linter.unusedVariables false
set_option linter.unusedSimpArgs false
namespace RC
open L NC NK DC
open Z (Nz Tz cmpv)
theorem split_sc2 {z x u : Int} (hx : -60000 ≤ x) (hu : -60000 ≤ u) : ∃ ρ, 2 * sc z x = sh z (x - u + 1) * sc 1 u + ρ ∧ 0 ≤ ρ ∧ ρ < sc 1 u ∧ (ρ = 0 ∨ (2 * sc 1 x ≤ ρ ∧ ρ + 2 * sc 1 x ≤ sc 1 u)) := by
  unfold sh
  by_cases h : 0 ≤ x - u + 1
  · rw [if_pos h]
    obtain ⟨k, hk⟩ := Int.eq_ofNat_of_zero_le h
    rw [hk, Int.toNat_natCast]
    refine ⟨0, ?_, by omega, sc_one_pos u, .inl rfl⟩
    rw [← sc_mul1, sc_shift _ _ _ hu, show u + (k : Int) = x + 1 by omega]
    have := sc_shift z x 1 hx
    rw [Int.add_zero, show x + ((1 : Nat) : Int) = x + 1 by omega] at *
    rw [← this, sc_mul1, sc_mul1 (z * 2 ^ 1)]
    rw [show z * 2 ^ 1 = 2 * z by omega, Int.mul_assoc]
  · rw [if_neg h]
    obtain ⟨k, hk⟩ := Int.eq_ofNat_of_zero_le (show 0 ≤ -(x - u + 1) by omega)
    rw [hk, Int.toNat_natCast]
    have hp := two_pos' k
    have e1 : sc 1 u = 2 * 2 ^ k * sc 1 x := by
      have := sc_shift 1 x (k + 1) hx
      rw [show x + ((k + 1 : Nat) : Int) = u by omega] at this
      rw [← this, sc_mul1, Int.one_mul, Int.pow_succ, Int.mul_comm (2 ^ k)]
    have e2 := Int.emod_add_mul_ediv z (2 ^ k)
    have e3 := Int.emod_nonneg z (Int.ne_of_gt hp)
    have e4 := Int.emod_lt_of_pos z hp
    have hE := sc_one_pos x
    rw [e1, sc_mul1 z x]
    generalize sc 1 x = E at *
    generalize z % 2 ^ k = m at *
    generalize z / 2 ^ k = Q at *
    generalize (2 : Int) ^ k = P at *
    have h1 : (m + 1) * E ≤ P * E := Int.mul_le_mul_of_nonneg_right (by omega) (Int.le_of_lt hE)
    have h0 : 0 ≤ m * E := Int.mul_nonneg e3 (Int.le_of_lt hE)
    rw [Int.add_mul, Int.one_mul] at h1
    refine ⟨2 * (m * E), ?_, by omega, ?_, ?_⟩
    · rw [← e2]; grind
    · rw [Int.mul_assoc]; omega
    · by_cases h2 : m = 0
      · left; rw [h2, Int.zero_mul]; rfl
      · right
        have h3 : 1 * E ≤ m * E := Int.mul_le_mul_of_nonneg_right (by omega) (Int.le_of_lt hE)
        rw [Int.mul_assoc]
        omega
theorem near_parts {z x : Int} {b : Nat} (hx : -20000 ≤ x) (hb : z < 2 ^ b) (hb' : 2 ^ (b - 1) ≤ z) (h0 : 0 < b) (ht : b + x ≤ 1024) :
    ∃ (k : Nat) (q H ρ e : Int), e = sc 1 (k - 1074) ∧ (b : Int) + x - 53 ≤ k - 1074 ∧ 0 ≤ q ∧ q < 9007199254740992 ∧ (k = 0 ∨ 4503599627370496 ≤ q) ∧ q = H / 2 ∧ 0 ≤ H ∧ 2 * sc z x = H * e + ρ ∧ 0 ≤ ρ ∧ ρ < e ∧ (ρ = 0 ∨ (2 * sc 1 x ≤ ρ ∧ ρ + 2 * sc 1 x ≤ e)) ∧
      (k : Int) * 4503599627370496 + q ≤ 9218868437227405311 ∧ U (k * 4503599627370496 + q) = q * e ∧ U (k * 4503599627370496 + q + 1) = (q + 1) * e ∧ Tow (sc z x) (k * 4503599627370496 + q) (decide (H % 2 = 1)) (decide (ρ ≠ 0)) := by
  obtain ⟨u, hu⟩ : ∃ u : Int, u = max (b + x - 53) (-1074) := ⟨_, rfl⟩
  obtain ⟨t1, t2⟩ := tow_near hx hb hb' h0 ht hu
  obtain ⟨ρ, h1, h2, h3, h4⟩ := split_sc2 (z := z) (x := x) (u := u) (by omega) (by omega)
  have hz : 0 ≤ z := by have := two_pos' (b - 1); omega
  have hH := sh_pos hz (x - u + 1)
  generalize sh z (x - u + 1) = H at *
  obtain ⟨k, hk⟩ : ∃ k : Nat, u + 1074 = k := ⟨(u + 1074).toNat, by omega⟩
  have hE := sc_one_pos u
  have d1 : u = b + x - 53 → 9007199254740992 ≤ H := fun hu' => by
    have e1 : sc 1 (x + (b - 1 : Nat)) ≤ sc z x := by rw [← sc_two _ x (by omega), sc_le]; exact hb'
    have e2 : sc 1 (x + (b - 1 : Nat)) = 4503599627370496 * sc 1 u := by
      rw [← sc_mul1, show (4503599627370496 : Int) = 2 ^ 52 by decide, sc_two 52 u (by omega)]
      congr 1; omega
    rcases Int.lt_or_le H 9007199254740992 with h | h
    · have := Int.mul_le_mul_of_nonneg_right (show H ≤ 9007199254740991 by omega) (Int.le_of_lt hE)
      omega
    · exact h
  have hc : k = 0 ∨ 4503599627370496 ≤ H / 2 := by
    by_cases h : b + x - 53 ≤ -1074
    · left; omega
    · right
      have := d1 (by omega)
      omega
  obtain ⟨g1, g2⟩ := U_of (k := k) (q := H / 2) (by omega) (by omega) hc
  rw [show (k : Int) - 1074 = u by omega] at g1 g2
  have t := tow_split (a := sc z x) (by omega) (by omega) g1 g2 rfl h1 h2 h3
  exact ⟨k, H / 2, H, ρ, sc 1 u, by rw [show (k : Int) - 1074 = u by omega], by omega, by omega, by omega, hc, rfl, hH, h1, h2, h3, h4, by omega, g1, g2, t⟩
theorem sc_half {x : Int} (hx : -50000 ≤ x) : sc 1 x = 2 * sc 1 (x - 1) := by
  have := sc_shift 1 (x - 1) 1 (by omega)
  rw [show x - 1 + ((1 : Nat) : Int) = x by omega] at this
  rw [← this, sc_mul1]
  rfl
theorem nudge_val (z x : Int) (hx : -20000 ≤ x) (t : Int) : sc (z * 18446744073709551616 + t) (x - 64) = sc z x + t * sc 1 (x - 64) := by
  rw [sc_add, ← sc_mul1 t]
  have := sc_shift z (x - 64) 64 (by omega)
  rw [show x - 64 + ((64 : Nat) : Int) = x by omega, show (2 : Int) ^ 64 = 18446744073709551616 by decide] at this
  rw [this]
/-- far above: still far above -/
theorem tow_far2 {a ε t s M : Int} (ht : t = 1024) (hs : s = 960) (hM : M = 9218868437227405311) (hε : 0 < ε) (h : sc 1 t - sc 1 s ≤ a) : Tow a M true true := by
  obtain ⟨k, hk⟩ : ∃ k : Nat, k = 2045 := ⟨_, rfl⟩
  obtain ⟨u, hu⟩ : ∃ u : Int, u = (k : Int) - 1074 := ⟨_, rfl⟩
  have hU := (U_of (k := k) (q := 9007199254740991) (by omega) (by omega) (by omega))
  rw [← hu, show (k : Int) * 4503599627370496 + 9007199254740991 = M by omega] at hU
  have e : sc 1 t = 9007199254740992 * sc 1 u := by
    have e2 : u + ((53 : Nat) : Int) = t := by omega
    have := sc_shift 1 u 53 (by omega)
    rw [e2, show (1 : Int) * 2 ^ 53 = 9007199254740992 by decide, sc_mul1] at this
    exact this.symm
  have e2 : sc 1 u = 2048 * sc 1 s := by
    have e2 : s + ((11 : Nat) : Int) = u := by omega
    have := sc_shift 1 s 11 (by omega)
    rw [e2, show (1 : Int) * 2 ^ 11 = 2048 by decide, sc_mul1] at this
    exact this.symm
  have hp := sc_one_pos s
  rw [e, e2] at h
  rw [e2] at hU
  clear e e2
  generalize sc 1 s = E at *
  obtain ⟨g1, g2⟩ := hU
  obtain ⟨u0, hu0⟩ : ∃ x, U M = x := ⟨_, rfl⟩
  obtain ⟨u1, hu1⟩ : ∃ x, U (M + 1) = x := ⟨_, rfl⟩
  rw [hu0] at g1
  rw [hu1] at g2
  have k4 : u0 < a := by clear hu0 hu1; omega
  have k5 : u0 + u1 < 2 * a := by clear hu0 hu1 k4; omega
  have k3 : a ≠ u0 ∧ 2 * a ≠ u0 + u1 := ⟨Int.ne_of_gt k4, Int.ne_of_gt k5⟩
  have r0 : 0 ≤ M := by rw [hM]; decide
  have r1 : M ≤ 9218868437227405311 := Int.le_of_eq hM
  have r2 : ¬ M < 9218868437227405311 := by rw [hM]; exact Int.lt_irrefl _
  refine ⟨r0, r1, by rw [hu0]; exact Int.le_of_lt k4, fun h => absurd h r2, ?_, ?_⟩
  · rw [hu0, hu1]; exact (decide_eq_true (Int.le_of_lt k5)).symm
  · rw [hu0, hu1]; exact (decide_eq_true k3).symm
/-- a part farther from 0, a part nearer -/
def dnr (r : Int) (hf m : Bool) : Int := if hf = false ∧ m = false then r - 1 else r
def dnh (hf m : Bool) : Bool := if m = true then hf else !hf
theorem tow_nudge {z x r : Int} {hf m : Bool} (hz : 0 < z) (hlt : z < 4294967296 ^ 400) (hx : -20000 ≤ x ∧ x ≤ 20000) (t : Tow (sc z x) r hf m) :
    Tow (sc z x + sc 1 (x - 64)) r hf true ∧ Tow (sc z x - sc 1 (x - 64)) (dnr r hf m) (dnh hf m) true := by
  obtain ⟨b, k1, k2, k3, k4⟩ := bits_ex 12800 z hz (by rw [← pow_12800]; exact hlt)
  obtain ⟨ε, hε⟩ : ∃ ε, sc 1 (x - 64) = ε := ⟨_, rfl⟩
  have hεp : 0 < ε := by rw [← hε]; exact sc_one_pos _
  have hx1 : sc 1 x = 18446744073709551616 * ε := by
    rw [← hε, ← sc_mul1, show (18446744073709551616 : Int) = 2 ^ 64 by decide, sc_two 64 _ (by omega)]
    congr 1; omega
  rw [hε]
  by_cases ht : b + x ≤ 1024
  · obtain ⟨k, q, H, ρ, e, he, hu, q0, q1, hc, hq, hH, hA, ρ0, ρ1, ρ2, hr, U0, U1, t'⟩ := near_parts (x := x) (by omega) k3 k4 k2 ht
    obtain ⟨rfl, rfl, rfl⟩ := t.unique t'
    have he2 : 1024 * ε ≤ e := by
      rw [he, ← hε, ← sc_mul1, show (1024 : Int) = 2 ^ 10 by decide, sc_two 10 _ (by omega)]
      exact sc1_le (by omega) (by omega)
    rw [hx1] at ρ2
    constructor
    · have := tow_split (a := sc z x + ε) (H := H) (ρ := ρ + 2 * ε) (by omega) hr U0 U1 hq (by omega) (by omega) (by omega)
      rwa [show decide (ρ + 2 * ε ≠ 0) = true by rw [decide_eq_true_iff]; omega] at this
    · unfold dnr dnh
      by_cases hρ : ρ = 0
      · have hm0 : decide (ρ ≠ 0) = false := by simp [hρ]
        rw [hm0]
        by_cases ho : H % 2 = 1
        · rw [show decide (H % 2 = 1) = true by simp [ho]]
          simp only [Bool.true_eq_false, false_and, if_false, Bool.false_eq_true, Bool.not_true]
          have e1 : (H - 1) * e = H * e - e := by rw [Int.sub_mul, Int.one_mul]
          have := tow_split (a := sc z x - ε) (H := H - 1) (ρ := e - 2 * ε) (by omega) hr U0 U1 (by omega) (by omega) (by omega) (by omega)
          rwa [show decide (e - 2 * ε ≠ 0) = true by rw [decide_eq_true_iff]; omega, show decide ((H - 1) % 2 = 1) = false by rw [decide_eq_false_iff_not]; omega] at this
        · rw [show decide (H % 2 = 1) = false by simp [ho]]
          simp only [and_self, if_true, Bool.false_eq_true, if_false, Bool.not_false]
          have hHe : H = 2 * q := by omega
          have ea : sc z x = q * e := by
            rw [hHe, Int.mul_assoc, hρ] at hA; omega
          have hp : 0 < sc z x := by rw [sc_mul1]; exact Int.mul_pos hz (sc_one_pos x)
          have hq1 : 1 ≤ q := by
            rcases Int.lt_or_le q 1 with h | h
            · have : q = 0 := by omega
              rw [this, Int.zero_mul] at ea; omega
            · exact h
          have hst := U_step (r := k * 4503599627370496 + q - 1) (by omega)
          rw [show (k : Int) * 4503599627370496 + q - 1 + 1 = k * 4503599627370496 + q by omega, U0] at hst
          have hsg : 4 * ε < sg (k * 4503599627370496 + q - 1) := by
            have hG : G (k * 4503599627370496 + q - 1) = 2 ^ k ∨ (1 ≤ k ∧ G (k * 4503599627370496 + q - 1) = 2 ^ (k - 1)) := by
              by_cases h1 : k = 0 ∨ 4503599627370496 ≤ q - 1
              · left
                have := (V_of (k := k) (q := q - 1) (by omega) (by omega) h1).2
                rwa [show (k : Int) * 4503599627370496 + (q - 1) = k * 4503599627370496 + q - 1 by omega] at this
              · right
                refine ⟨by omega, ?_⟩
                have := (V_of (k := k - 1) (q := 9007199254740991) (by omega) (by omega) (by omega)).2
                rwa [show ((k - 1 : Nat) : Int) * 4503599627370496 + 9007199254740991 = k * 4503599627370496 + q - 1 by omega] at this
            unfold sg
            rcases hG with h | ⟨h1, h⟩
            · rw [h, sc_two k _ (by omega), show -1074 + (k : Int) = k - 1074 by omega, ← he]; omega
            · rw [h, sc_two (k - 1) _ (by omega)]
              have h3 := sc_half (x := (k : Int) - 1074) (by omega)
              rw [← he] at h3
              rw [show -1074 + ((k - 1 : Nat) : Int) = (k : Int) - 1074 - 1 by omega]
              omega
          generalize hsgv : sg (k * 4503599627370496 + q - 1) = g at *
          have hUr : U (k * 4503599627370496 + q - 1) = q * e - g := by omega
          have hU1' : U (k * 4503599627370496 + q - 1 + 1) = q * e := by rw [show (k : Int) * 4503599627370496 + q - 1 + 1 = k * 4503599627370496 + q by omega]; exact U0
          rw [ea]
          generalize q * e = P at *
          refine ⟨by omega, by omega, by rw [hUr]; omega, fun _ => by rw [hU1']; omega, ?_, ?_⟩
          · rw [hUr, hU1']; symm; rw [decide_eq_true_iff]; omega
          · rw [hUr, hU1']; symm; rw [decide_eq_true_iff]; omega
      · have hm1 : decide (ρ ≠ 0) = true := by simp [hρ]
        rw [hm1]
        simp only [Bool.true_eq_false, and_false, if_false, if_true]
        have := tow_split (a := sc z x - ε) (H := H) (ρ := ρ - 2 * ε) (by omega) hr U0 U1 hq (by omega) (by omega) (by omega)
        rwa [show decide (ρ - 2 * ε ≠ 0) = true by rw [decide_eq_true_iff]; omega] at this
  · have e1 : sc 1 (x + (b - 1 : Nat)) ≤ sc z x := by rw [← sc_two _ x (by omega), sc_le]; exact k4
    obtain ⟨t1, ht1⟩ : ∃ t1 : Int, t1 = 1024 := ⟨_, rfl⟩
    obtain ⟨s1, hs1⟩ : ∃ s1 : Int, s1 = 960 := ⟨_, rfl⟩
    obtain ⟨M, hM⟩ : ∃ M : Int, M = 9218868437227405311 := ⟨_, rfl⟩
    have hle : sc 1 t1 ≤ sc z x := Int.le_trans (sc1_le (by omega) (by omega)) e1
    obtain ⟨rfl, rfl, rfl⟩ := t.unique (tow_far ht1 hM hle)
    have hlow : sc 1 t1 - sc 1 s1 ≤ sc z x - ε := by
      -- the part is no more than what 64 bits less count
      obtain ⟨j, hj⟩ : ∃ j : Nat, x + (b - 1 : Nat) = t1 + j := ⟨(x + (b - 1 : Nat) - t1).toNat, by omega⟩
      have e2 : ε ≤ sc 1 (s1 + j) := by rw [← hε]; exact sc1_le (by omega) (by omega)
      have e3 : sc 1 (t1 + j) = 2 ^ j * sc 1 t1 := by rw [← sc_two j t1 (by omega), sc_mul1]
      have e4 : sc 1 (s1 + j) = 2 ^ j * sc 1 s1 := by rw [← sc_two j s1 (by omega), sc_mul1]
      have e5 : sc 1 s1 ≤ sc 1 t1 := sc1_le (by omega) (by omega)
      rw [hj, e3] at e1
      rw [e4] at e2
      have h2 := two_pos' j
      have e6 : (2 ^ j - 1) * sc 1 s1 ≤ (2 ^ j - 1) * sc 1 t1 := Int.mul_le_mul_of_nonneg_left e5 (by omega)
      rw [Int.sub_mul, Int.sub_mul, Int.one_mul, Int.one_mul] at e6
      omega
    refine ⟨tow_far ht1 hM (by omega), ?_⟩
    have := tow_far2 ht1 hs1 hM hεp hlow
    exact this
end RC
end Go.Proofs.YtpmjeipdldnnbaaDoor

/-
  Package quot, pure: a real number that is known by what is no more, and what is less, than twice it: the greatest rank, the half, the rest; what is told.
-/
namespace Go.Proofs.YtpmjeipdldnnbaaDoor
set_option linter.unusedVariables false
set_option linter.unusedSimpArgs false
open Go.RowKit
set_option linter.unusedVariables false
set_option linter.unusedSimpArgs false
namespace JC
open L NC NK DC RC SC PC
/-- what is no more than twice a real number, and what is less -/
structure Cut (le lt : Int → Prop) : Prop where
  a : ∀ t, lt t → le t
  b : ∀ s t, s < t → le t → lt s
structure Tog (le lt : Int → Prop) (r : Int) (h m : Bool) : Prop where
  r0 : 0 ≤ r
  r1 : r ≤ 9218868437227405311
  lo : le (2 * U r)
  hi : r < 9218868437227405311 → ¬ le (2 * U (r + 1))
  hh : h = true ↔ le (U r + U (r + 1))
  hm : m = true ↔ (lt (2 * U r) ∧ (le (U r + U (r + 1)) → lt (U r + U (r + 1))))
section
variable {le lt le' lt' : Int → Prop}
theorem Cut.dn (C : Cut le lt) {s t : Int} (h : s ≤ t) (k : le t) : le s := by
  rcases Int.lt_or_eq_of_le h with h | rfl
  · exact C.a _ (C.b _ _ h k)
  · exact k
theorem Cut.dlt (C : Cut le lt) {s t : Int} (h : s ≤ t) (k : lt t) : lt s := by
  rcases Int.lt_or_eq_of_le h with h | rfl
  · exact C.b _ _ h (C.a _ k)
  · exact k
theorem Tog.unique {r s : Int} {h m h' m' : Bool} (C : Cut le lt) (t : Tog le lt r h m) (t' : Tog le lt s h' m') : r = s ∧ h = h' ∧ m = m' := by
  have key : ∀ {r s : Int} {h m h' m' : Bool}, Tog le lt r h m → Tog le lt s h' m' → ¬ r < s := by
    intro r s h m h' m' t t' hl
    have c1 := U_le (r := r + 1) (s := s) (by have := t.r0; omega) (by omega)
    exact t.hi (by have := t'.r1; omega) (C.dn (by omega) t'.lo)
  have h1 := key t t'
  have h2 := key t' t
  obtain rfl : r = s := by omega
  refine ⟨rfl, ?_, ?_⟩
  · have := t.hh.trans t'.hh.symm
    cases h <;> cases h' <;> simp_all
  · have := t.hm.trans t'.hm.symm
    cases m <;> cases m' <;> simp_all
/-- the near numbers and their middles lie on a grid of which no point is inside -/
theorem tog_grid {z x r u0 u1 a e : Int} {hf m left : Bool} (C : Cut le lt) (r0 : 0 ≤ r) (r1 : r ≤ 9218868437227405311) (hu0 : U r = u0) (hu1 : U (r + 1) = u1) (e0 : 0 < e) (h01 : u0 < u1) (tl : u0 ≤ a) (th : r < 9218868437227405311 → a < u1) (thh : hf = decide (u0 + u1 ≤ 2 * a)) (thm : m = decide (a ≠ u0 ∧ 2 * a ≠ u0 + u1))
    (g1 : u0 + u1 ≤ 2 * a ∨ 2 * a + 2 * e ≤ u0 + u1) (g2 : 2 * u1 ≤ 2 * a ∨ 2 * a + 2 * e ≤ 2 * u1)
    (hl : le (2 * a)) (hu : ¬ le (2 * a + 2 * e)) (hleft : left = true ↔ lt (2 * a)) : Tog le lt r hf (m || left) := by
  subst hu0
  subst hu1
  generalize h0 : U r = u0 at *
  generalize h1 : U (r + 1) = u1 at *
  have up : ∀ T, 2 * a + 2 * e ≤ T → ¬ le T := fun T hT k => hu (C.dn hT k)
  have mid : le (u0 + u1) ↔ u0 + u1 ≤ 2 * a := by
    constructor
    · intro k
      rcases g1 with g | g
      · exact g
      · exact absurd k (up _ g)
    · intro k; exact C.dn k hl
  refine ⟨r0, r1, ?_, ?_, ?_, ?_⟩
  · rw [h0]; exact C.dn (by clear h0 h1; omega) hl
  · intro hr
    rw [h1]
    have := th hr
    rcases g2 with g | g
    · clear h0 h1; omega
    · exact up _ g
  · rw [h0, h1, mid, thh, decide_eq_true_iff]
  · rw [h0, h1]
    cases left
    · have nl : ¬ lt (2 * a) := fun k => by have := hleft.2 k; cases this
      have lt_iff : ∀ T, T ≤ 2 * a → (lt T ↔ T < 2 * a) := fun T hT => by
        constructor
        · intro k
          rcases Int.lt_or_eq_of_le hT with h | rfl
          · exact h
          · exact absurd k nl
        · intro k; exact C.b _ _ k hl
      rw [Bool.or_false, thm, decide_eq_true_iff, lt_iff _ (by clear h0 h1; omega)]
      constructor
      · rintro ⟨k1, k2⟩
        refine ⟨by clear h0 h1; omega, fun k => ?_⟩
        have k3 := mid.1 k
        exact (lt_iff _ k3).2 (by clear h0 h1; omega)
      · rintro ⟨k1, k2⟩
        refine ⟨by clear h0 h1; omega, fun k => ?_⟩
        have k3 := (lt_iff _ (by clear h0 h1; omega)).1 (k2 (mid.2 (by clear h0 h1; omega)))
        clear h0 h1; omega
    · have l := hleft.1 rfl
      rw [Bool.or_true]
      simp only [true_iff]
      exact ⟨C.dlt (by clear h0 h1; omega) l, fun k => C.dlt (mid.1 k) l⟩
theorem tog_near {z x r : Int} {hf m left : Bool} (C : Cut le lt) (hx : -20000 ≤ x ∧ x ≤ 20000) (hz : 0 < z) (hz2 : z < 4294967296 ^ 400) (hg : 18014398509481984 ≤ z ∨ x ≤ -1076) (t : Tow (sc z x) r hf m)
    (hl : le (2 * sc z x)) (hu : ¬ le (2 * sc z x + 2 * sc 1 x)) (hleft : left = true ↔ lt (2 * sc z x)) : Tog le lt r hf (m || left) := by
  have h01 := U_lt t.r0 (show r < r + 1 by omega)
  have e0 := sc_one_pos x
  have grid : (U r + U (r + 1) ≤ 2 * sc z x ∨ 2 * sc z x + 2 * sc 1 x ≤ U r + U (r + 1)) ∧ (2 * U (r + 1) ≤ 2 * sc z x ∨ 2 * sc z x + 2 * sc 1 x ≤ 2 * U (r + 1)) := by
    obtain ⟨b, k1, k2, k3, k4⟩ := bits_ex 12800 z (by omega) (by rw [← pow_12800]; exact hz2)
    by_cases ht : b + x ≤ 1024
    · obtain ⟨k, q, H, ρ, e, he, hb, q0, q1, -, -, -, h2, -, -, hρ, -, hU, hU1, t'⟩ := near_parts hx.1 k3 k4 k2 ht
      obtain ⟨hr, -, -⟩ := t.unique t'
      rw [hr, hU, hU1]
      have h2e : 2 * sc 1 x ≤ e := by
        have a1 := sc_two 1 x (by omega)
        rw [show (2 : Int) ^ 1 = 2 by decide, sc_mul1] at a1
        rw [a1, he]
        apply sc1_le _ (by omega)
        rcases hg with hg | hg
        · have : 54 < b := by
            rcases Nat.lt_or_ge 54 b with h | h
            · exact h
            · exfalso
              have : (2 : Int) ^ b ≤ 2 ^ 54 := two_le' h
              have e54 : (2 : Int) ^ 54 = 18014398509481984 := by decide
              omega
          omega
        · omega
      have ep : 0 < e := by omega
      have key : ∀ j : Int, j * e ≤ 2 * sc z x ∨ 2 * sc z x + 2 * sc 1 x ≤ j * e := fun j => by
        rw [h2]
        rcases Int.lt_or_le H j with hj | hj
        · right
          have := Int.mul_le_mul_of_nonneg_right (show H + 1 ≤ j by omega) (Int.le_of_lt ep)
          rw [Int.add_mul, Int.one_mul] at this
          omega
        · left
          have := Int.mul_le_mul_of_nonneg_right hj (Int.le_of_lt ep)
          omega
      refine ⟨?_, ?_⟩
      · have := key (q + (q + 1))
        rw [Int.add_mul q (q + 1)] at this
        exact this
      · have := key (2 * (q + 1))
        rw [Int.mul_assoc] at this
        exact this
    · have e1 : sc 1 (x + (b - 1 : Nat)) ≤ sc z x := by rw [← sc_two _ x (by omega), sc_le]; exact k4
      obtain ⟨u, hu⟩ : ∃ u : Int, u = 1024 := ⟨_, rfl⟩
      have e2 : sc 1 u ≤ sc z x := Int.le_trans (sc1_le (by omega) (by omega)) e1
      obtain ⟨M, hM⟩ : ∃ M : Int, M = 9218868437227405311 := ⟨_, rfl⟩
      have tf := tow_far hu hM e2
      obtain ⟨rfl, -, -⟩ := t.unique tf
      have e3 : U (r + 1) = sc 1 u := by
        have g := (U_of (k := 2045) (q := 9007199254740991) (by omega) (by omega) (by omega)).2
        rw [show ((2045 : Nat) : Int) * 4503599627370496 + 9007199254740991 + 1 = r + 1 by omega] at g
        rw [g, ← sc_mul1, show (9007199254740991 : Int) + 1 = 2 ^ 53 by decide, sc_two 53 _ (by omega)]
        congr 1; omega
      rw [e3] at h01 ⊢
      generalize sc 1 u = B at *
      generalize U r = u0 at *
      refine ⟨.inl ?_, .inl ?_⟩
      · clear e3; omega
      · clear e3; omega
  exact tog_grid (z := z) (x := x) C t.r0 t.r1 rfl rfl e0 h01 t.lo t.hi t.hh t.hm grid.1 grid.2 hl hu hleft
/-- a number -/
theorem tog_exact (C : Cut le lt) {r : Int} (r0 : 0 ≤ r) (r1 : r ≤ 9218868437227405311) (h : le (2 * U r)) (h' : ¬ lt (2 * U r)) : Tog le lt r false false := by
  have h01 := U_lt r0 (show r < r + 1 by omega)
  have n1 : ¬ le (U r + U (r + 1)) := fun k => h' (C.b _ _ (by omega) k)
  have n2 : ¬ le (2 * U (r + 1)) := fun k => h' (C.b _ _ (by omega) k)
  exact ⟨r0, r1, h, fun _ => n2, by simp [n1], by simp [h']⟩
theorem Tog.exact {r : Int} {h m : Bool} (C : Cut le lt) (t : Tog le lt r h m) : (h || m) = false ↔ ¬ lt (2 * U r) := by
  have h01 := U_lt t.r0 (show r < r + 1 by omega)
  constructor
  · intro k l
    have h1 : h = false := by cases h <;> simp_all
    have h2 : m = false := by cases m <;> simp_all
    subst h1
    subst h2
    have a := t.hm
    have b := t.hh
    simp only [Bool.false_eq_true, false_iff] at a b
    exact a ⟨l, fun k => absurd k b⟩
  · intro l
    obtain ⟨-, h1, h2⟩ := t.unique C (tog_exact C t.r0 t.r1 t.lo l)
    rw [h1, h2]; rfl
theorem tog_bd {b : Bool} {r : Int} {h m : Bool} (r0 : 0 ≤ r) (r1 : r ≤ 9218868437227405311) (mode : Int) : 0 ≤ ry b r h m mode ∧ ry b r h m mode ≤ 9218868437227405312 ∧ r ≤ ry b r h m mode ∧ ry b r h m mode ≤ r + 1 := by
  unfold ry
  split <;> omega
theorem tog_mono {b : Bool} {r r' : Int} {hf m hf' m' : Bool} (C : Cut le lt) (C' : Cut le' lt') (t : Tog le lt r hf m) (t' : Tog le' lt' r' hf' m') (h : ∀ T, le T → le' T) (hs : ∀ T, lt T → lt' T) (mode : Int) : ry b r hf m mode ≤ ry b r' hf' m' mode := by
  have hle : r ≤ r' := by
    rcases Int.lt_or_le r' r with h1 | h1
    · exfalso
      have c1 := U_le (r := r' + 1) (s := r) (by have := t'.r0; omega) (by omega)
      exact t'.hi (by have := t.r1; omega) (h _ (C.dn (by omega) t.lo))
    · exact h1
  have k1 := tog_bd (b := b) (h := hf) (m := m) t.r0 t.r1 mode
  have k2 := tog_bd (b := b) (h := hf') (m := m') t'.r0 t'.r1 mode
  rcases Int.lt_or_eq_of_le hle with h1 | rfl
  · omega
  · have i1 : hf = true → hf' = true := fun k => t'.hh.2 (h _ (t.hh.1 k))
    have i2 : hf = true → m = true → m' = true := fun k l => by
      have a := t.hm.1 l
      exact t'.hm.2 ⟨hs _ a.1, fun _ => hs _ (a.2 (t.hh.1 k))⟩
    have i3 : m = true → hf' = true ∨ m' = true := fun l => by
      have a := t.hm.1 l
      cases hf'
      · refine .inr (t'.hm.2 ⟨hs _ a.1, fun k => ?_⟩)
        have := t'.hh.2 k
        cases this
      · exact .inl rfl
    have hup := up_mono (b := b) (o := decide (r % 2 = 1)) (mode := mode) i1 i2 i3
    unfold ry
    by_cases h2 : up b (decide (r % 2 = 1)) hf m mode = true
    · rw [if_pos h2, if_pos (hup h2)]; omega
    · rw [if_neg h2]; split <;> omega
end
open Classical in
/-- the rank, the half, the rest -/
noncomputable def tog (le lt : Int → Prop) : Int × Bool × Bool := if h : ∃ t : Int × Bool × Bool, Tog le lt t.1 t.2.1 t.2.2 then h.choose else (0, false, false)
theorem tog_eq {le lt : Int → Prop} {r : Int} {h m : Bool} (C : Cut le lt) (t : Tog le lt r h m) : tog le lt = (r, h, m) := by
  unfold tog
  have hx : ∃ t : Int × Bool × Bool, Tog le lt t.1 t.2.1 t.2.2 := ⟨(r, h, m), t⟩
  rw [dif_pos hx]
  obtain ⟨h1, h2, h3⟩ := hx.choose_spec.unique C t
  exact Prod.ext h1 (Prod.ext h2 h3)
/-- what is told of it, with its sign -/
noncomputable def RT (b : Bool) (le lt : Int → Prop) (mode : Int) : Int × Bool × Int := (rx b (ry b (tog le lt).1 (tog le lt).2.1 (tog le lt).2.2 mode), (tog le lt).2.1 || (tog le lt).2.2, 0)
theorem RT_of {le lt : Int → Prop} {r : Int} {h m : Bool} (C : Cut le lt) (t : Tog le lt r h m) (b : Bool) (mode : Int) : RT b le lt mode = (rx b (ry b r h m mode), h || m, 0) := by
  unfold RT
  rw [tog_eq C t]
/-- a quotient of two numbers above 0; a root -/
def qle (n d : Int) (t : Int) : Prop := t * d ≤ 2 * n
def qlt (n d : Int) (t : Int) : Prop := t * d < 2 * n
def rle (n : Int) (t : Int) : Prop := t ≤ 0 ∨ t * t ≤ 4 * n
def rlt (n : Int) (t : Int) : Prop := t ≤ 0 ∨ t * t < 4 * n
theorem qcut {n d : Int} (hd : 0 < d) : Cut (qle n d) (qlt n d) := by
  refine ⟨fun t h => Int.le_of_lt h, fun s t h k => ?_⟩
  have := Int.mul_lt_mul_of_pos_right h hd
  unfold qle at k
  unfold qlt
  omega
theorem rcut (n : Int) : Cut (rle n) (rlt n) := by
  refine ⟨fun t h => ?_, fun s t h k => ?_⟩
  · rcases h with h | h
    · exact .inl h
    · exact .inr (Int.le_of_lt h)
  · rcases Int.lt_or_le 0 s with hs | hs
    · right
      have : ¬ t ≤ 0 := by omega
      have k := k.resolve_left this
      have a := Int.mul_lt_mul_of_pos_right h hs
      have b := Int.mul_lt_mul_of_pos_left h (show 0 < t by omega)
      omega
    · exact .inl hs
end JC
end Go.Proofs.YtpmjeipdldnnbaaDoor

/-
  Package quot, pure: quotients and roots of numbers as cuts; what is told of a mantissa and what is left.
-/
namespace Go.Proofs.YtpmjeipdldnnbaaDoor
set_option linter.unusedVariables false
set_option linter.unusedSimpArgs false
open Go.RowKit
set_option linter.unusedVariables false
set_option linter.unusedSimpArgs false
namespace JC
open L NC NK DC RC SC PC
@[irreducible] def KN : Nat := 60000
theorem KN_eq : KN = 60000 := by unfold KN; rfl
/-- how far from 0 a number is -/
def ab (x : Int) : Int := U (x % 9223372036854775808)
theorem ab_neg (x : Int) : ab (F.neg x) = ab x := by
  unfold ab
  have := F.abs_neg x
  unfold F.abs at this
  rw [this]
theorem val_ab {x : Int} (h : fi x) : val x = sgm (F.sgn x) (ab x) := val_eq h
theorem ab_pos {x : Int} (h : fi x) (h0 : val x ≠ 0) : 0 < ab x := by
  have h1 := U_pos (r := x % 9223372036854775808) (by omega)
  have h2 := val_ab h
  unfold ab at *
  generalize U (x % 9223372036854775808) = u at *
  rcases Int.lt_or_eq_of_le h1 with h | h
  · exact h
  · subst h
    exfalso; apply h0; rw [h2]
    unfold sgm; split <;> rfl
/-- a number above 0: its odd mantissa, its exponent -/
theorem of_parts {x : Int} (h : fi x) (h0 : val x ≠ 0) : ∃ o X : Int, OfD x = ⟨0, 0, sgm (F.sgn x) o, X⟩ ∧ 0 < o ∧ o < 9007199254740992 ∧ o % 2 = 1 ∧ -1074 ≤ X ∧ X ≤ 1024 ∧ ab x = sc o X := by
  obtain ⟨e0, hf⟩ := of_fit h
  have hab := ab_pos h h0
  have hv := val_ab h
  have e : OfD x = fin (sgm (F.sgn x) (mant x)) (F.ulp x) := by unfold OfD; rw [if_neg h.2.2]
  have q0 := F.exq_bd x
  have f0 := F.fra_bd x
  have m0 : 0 ≤ mant x ∧ mant x < 9007199254740992 := by unfold mant; split <;> omega
  have u0 : -1074 ≤ F.ulp x := by unfold F.ulp; split <;> omega
  generalize mant x = M at *
  generalize F.ulp x = u at *
  have hM : M ≠ 0 := by
    rintro rfl
    apply h0
    unfold val
    rw [e, show sgm (F.sgn x) 0 = 0 by unfold sgm; split <;> rfl, fin_zero]
    exact sc_zero.2 rfl
  obtain ⟨o, o1, o2⟩ := tz_spec hM
  have eg := fin_sg (b := F.sgn x) (x := u) o1 o2
  have os := odd_small o1 (by omega)
  rw [← e] at eg
  rw [eg] at e0
  by_cases hi : inb (sgm (F.sgn x) o) (u + tz M)
  · rw [if_pos hi] at eg
    have hx := hf.x
    have hhi := hf.hi
    have hlo := hf.lo
    have hv' : val x = sc (sgm (F.sgn x) o) (u + tz M) := by unfold val; rw [eg]; rfl
    rw [eg] at hx hhi hlo
    have hS : S (Dy.mk 0 (sgm (F.sgn x) o) (u + tz M)) = sc (sgm (F.sgn x) o) (u + tz M) := rfl
    rw [hS] at hhi hlo
    have es : sc (sgm (F.sgn x) o) (u + tz M) = sgm (F.sgn x) (sc o (u + tz M)) := by unfold sgm; split; exact sc_neg _ _; rfl
    have ea : ab x = sc o (u + tz M) := by
      rw [hv', es] at hv
      unfold sgm at hv
      split at hv <;> omega
    refine ⟨o, u + tz M, eg, os.1, by omega, o2, by omega, ?_, ea⟩
    rcases Int.lt_or_le 1024 (u + tz M) with k | k
    · exfalso
      rw [es] at hhi hlo
      generalize hX : u + (tz M : Int) = X at *
      have a1 : sc 1 X ≤ sc o X := sc_le.2 (by omega)
      obtain ⟨t, ht⟩ : ∃ t : Int, t = 1024 := ⟨_, rfl⟩
      rw [← ht] at hhi hlo k
      have a2 := sc1_le (x := t + 1) (y := X) (by omega) (by omega)
      have a3 := sc_shift 1 t 1 (by omega)
      rw [show (1 : Int) * 2 ^ 1 = 2 by decide, show t + ((1 : Nat) : Int) = t + 1 by omega, sc_mul1] at a3
      have a4 := sc_one_pos t
      generalize sc 1 t = B at *
      cases hs : F.sgn x <;> rw [hs] at hhi hlo <;> unfold sgm at hhi hlo <;> simp at hhi hlo <;> omega
    · exact k
  · rw [if_neg hi] at e0; cases e0
/-- what is left: a part more, or nothing -/
def ones (b left : Bool) : Dy := if left = true then ⟨0, sgm b 1, 0⟩ else dz
theorem lt_390 {z : Int} {B : Nat} (hB : B = 400) (h : z < 2 ^ B) : z < 4294967296 ^ 390 ∧ z < 4294967296 ^ 400 := by
  have e : (4294967296 : Int) = 2 ^ 32 := by decide
  rw [e, ← Int.pow_mul, ← Int.pow_mul]
  exact ⟨Int.lt_trans h (two_lt' (by omega)), Int.lt_trans h (two_lt' (by omega))⟩
theorem fin_pos {b : Bool} {z x : Int} {B : Nat} (hB : B = 400) (h0 : 0 < z) (hz : z < 2 ^ B) (hx : -9000 ≤ x ∧ x ≤ 9000) :
    ∃ o X : Int, fin (sgm b z) x = ⟨0, 0, sgm b o, X⟩ ∧ 0 < o ∧ o ≤ z ∧ sc o X = sc z x ∧ -10000 ≤ X ∧ X ≤ 10000 ∧ Ok ⟨0, sgm b o, X⟩ := by
  obtain ⟨o, o1, o2⟩ := tz_spec (show z ≠ 0 by omega)
  have os := odd_small o1 h0
  have hk : tz z < 400 := by
    rcases Nat.lt_or_ge (tz z) 400 with h | h
    · exact h
    · exfalso
      have a1 : (2 : Int) ^ B ≤ 2 ^ tz z := two_le' (by omega)
      have a2 := Int.mul_le_mul_of_nonneg_right (show 1 ≤ o by omega) (Int.le_of_lt (two_pos' (tz z)))
      omega
  have hl := lt_390 hB (show o < 2 ^ B by omega)
  have hi : inb (sgm b o) (x + tz z) := by
    unfold inb
    have := hl.2
    generalize (4294967296 : Int) ^ 400 = c400 at *
    unfold sgm
    split <;> omega
  have e := fin_sg (b := b) (x := x) o1 o2
  rw [if_pos hi] at e
  refine ⟨o, x + tz z, e, os.1, os.2, ?_, by omega, by omega, ?_⟩
  · have := sc_shift o x (tz z) (by omega)
    rw [← o1] at this
    exact this.symm
  · have := fin_ok (sgm b z) x
    rw [e] at this
    exact this
theorem finish_p {b left : Bool} {z x mode r : Int} {hf m : Bool} {B : Nat} (hB : B = 400) (hm : 0 ≤ mode ∧ mode ≤ 4) (h0 : 0 < z) (hz : z < 2 ^ B) (hx : -9000 ≤ x ∧ x ≤ 9000) (t : Tow (sc z x) r hf m) :
    PE (fin (sgm b z) x).d (ones b left) mode = 0 ∧ PX (fin (sgm b z) x).d (ones b left) mode = rx b (ry b r hf (m || left) mode) ∧ PL (fin (sgm b z) x).d (ones b left) mode = (hf || (m || left)) := by
  obtain ⟨o, X, e, o1, o2, o3, x1, x2, hok⟩ := fin_pos (b := b) hB h0 hz hx
  rw [e]
  show PE ⟨0, sgm b o, X⟩ _ _ = 0 ∧ PX ⟨0, sgm b o, X⟩ _ _ = _ ∧ PL ⟨0, sgm b o, X⟩ _ _ = _
  have hl := lt_390 hB (show o < 2 ^ B by omega)
  have hn : ((sgm b o).natAbs : Int) = o := by unfold sgm; split <;> omega
  have hg : ng ⟨0, sgm b o, X⟩ = b := by
    unfold ng sgm
    cases b
    · simp; omega
    · simp; omega
  have e1 : isdir (ones b left) = true := by unfold ones isdir sgm; cases left <;> cases b <;> decide
  have e2 : (ones b left).er = 0 := by unfold ones; cases left <;> rfl
  have pe : PE ⟨0, sgm b o, X⟩ (ones b left) mode = 0 := by
    unfold PE
    rw [if_neg (by simp), if_neg (by simpa using e2), if_neg (by simp [hm, e1])]
    show (if 4294967296 ^ 390 ≤ ((sgm b o).natAbs : Int) then (2 : Int) else 0) = 0
    rw [hn, if_neg]
    have := hl.1
    generalize (4294967296 : Int) ^ 390 = c at *
    omega
  refine ⟨pe, ?_⟩
  rw [← o3] at t
  cases left
  · have n0 : ((ones b false).m.natAbs : Int) = 0 := rfl
    have z0 : az ⟨0, sgm b o, X⟩ (ones b false) = o := by unfold az nz; rw [if_pos n0]; exact hn
    have z1 : ax ⟨0, sgm b o, X⟩ (ones b false) = X := by unfold ax nx; rw [if_pos n0]
    have z2 : bz ⟨0, sgm b o, X⟩ (ones b false) = b := by unfold bz nb; rw [if_pos n0]; exact hg
    have t0 : Tow (sc (az ⟨0, sgm b o, X⟩ (ones b false)) (ax ⟨0, sgm b o, X⟩ (ones b false))) r hf m := by rw [z0, z1]; exact t
    have ee := tow_eq t0
    unfold PX PL YY LL
    rw [if_pos pe, if_pos pe, ee, z2, Bool.or_false]
    exact ⟨rfl, rfl⟩
  · have n1 : ((ones b true).m.natAbs : Int) = 1 := by unfold ones sgm; cases b <;> decide
    have n0 : ¬ ((ones b true).m.natAbs : Int) = 0 := by omega
    have k0 : ¬ (((Dy.mk 0 (sgm b o) X).m.natAbs : Int)) = 0 := by show ¬ ((sgm b o).natAbs : Int) = 0; omega
    have hgd : ng ⟨0, sgm b o, X⟩ = ng (ones b true) := by rw [hg]; unfold ng ones sgm; cases b <;> decide
    have z0 : az ⟨0, sgm b o, X⟩ (ones b true) = o * 18446744073709551616 + 1 := by unfold az nz; rw [if_neg n0, if_neg k0, if_pos hgd]; show ((sgm b o).natAbs : Int) * _ + 1 = _; rw [hn]
    have z1 : ax ⟨0, sgm b o, X⟩ (ones b true) = X - 64 := by unfold ax nx; rw [if_neg n0, if_neg k0]
    have z2 : bz ⟨0, sgm b o, X⟩ (ones b true) = b := by unfold bz nb; rw [if_neg n0, if_neg k0]; exact hg
    have hN := tow_nudge (z := o) (x := X) o1 hl.2 (by omega) t
    have t0 : Tow (sc (az ⟨0, sgm b o, X⟩ (ones b true)) (ax ⟨0, sgm b o, X⟩ (ones b true))) r hf true := by rw [z0, z1, nudge_val _ _ (by omega), Int.one_mul]; exact hN.1
    have ee := tow_eq t0
    unfold PX PL YY LL
    rw [if_pos pe, if_pos pe, ee, z2, Bool.or_true]
    exact ⟨rfl, rfl⟩
/-- the quotient: its whole part, and what is left -/
theorem div_le {N D o X L f z e : Int} (hz : -10000 ≤ e) (hX : -10000 ≤ X) (hf : e + X = f) (hD : D = sc o X) (hN : N = sc L f * 2 ^ KN) : (qle N D (2 * sc z e) ↔ z * o ≤ L) ∧ (qlt N D (2 * sc z e) ↔ z * o < L) := by
  have h := sc_mul (m := z) (n := o) hz hX KN_eq
  have hp := two_pos' KN
  unfold qle qlt
  rw [hD, hN, Int.mul_assoc, ← h, hf]
  have h1 := sc_le (m := z * o) (n := L) (x := f)
  have h2 := sc_lt (m := z * o) (n := L) (x := f)
  generalize sc (z * o) f = a at *
  generalize sc L f = c at *
  rw [← h1, ← h2]
  constructor
  · constructor
    · intro k
      exact Int.le_of_mul_le_mul_right (show a * 2 ^ KN ≤ c * 2 ^ KN by omega) hp
    · intro k
      have := Int.mul_le_mul_of_nonneg_right k (Int.le_of_lt hp)
      omega
  · constructor
    · intro k
      exact Int.lt_of_mul_lt_mul_right (show a * 2 ^ KN < c * 2 ^ KN by omega) (Int.le_of_lt hp)
    · intro k
      have := Int.mul_lt_mul_of_pos_right k hp
      omega
theorem two_sc (z e : Int) : 2 * sc z e + 2 * sc 1 e = 2 * sc (z + 1) e := by rw [sc_add]; omega
theorem div_tog {N D o X L f z e r : Int} {hf m left : Bool} {B : Nat} (hB : B = 400) (he : -10000 ≤ e ∧ e ≤ 10000) (hX : -10000 ≤ X) (hfe : e + X = f) (hD : D = sc o X) (hN : N = sc L f * 2 ^ KN) (ho : 0 < o) (hz0 : 0 < z) (hz1 : z < 2 ^ B)
    (hg : 18014398509481984 ≤ z ∨ e ≤ -1076) (h1 : z * o ≤ L) (h2 : L < (z + 1) * o) (hl : left = decide (z * o < L)) (t : Tow (sc z e) r hf m) : Tog (qle N D) (qlt N D) r hf (m || left) := by
  have hDp : 0 < D := by rw [hD, sc_mul1]; exact Int.mul_pos ho (sc_one_pos _)
  apply tog_near (qcut hDp) (by omega) hz0 (lt_390 hB hz1).2 hg t
  · exact (div_le he.1 hX hfe hD hN).1.2 h1
  · rw [two_sc]
    intro k
    have := (div_le he.1 hX hfe hD hN).1.1 k
    omega
  · rw [hl, decide_eq_true_iff]
    exact (div_le he.1 hX hfe hD hN).2.symm
theorem root_le {N L f z e : Int} (hz : -10000 ≤ e) (hf : e + e = f) (hN : N = sc L f * 2 ^ KN) (h0 : 0 < z) : (rle N (2 * sc z e) ↔ z * z ≤ L) ∧ (rlt N (2 * sc z e) ↔ z * z < L) := by
  have h := sc_mul (m := z) (n := z) hz hz KN_eq
  have hp := two_pos' KN
  have hs : 0 < sc z e := by rw [sc_mul1]; exact Int.mul_pos h0 (sc_one_pos _)
  have e2 : 2 * sc z e * (2 * sc z e) = 4 * (sc z e * sc z e) := by grind
  have hn : ¬ 2 * sc z e ≤ 0 := by omega
  unfold rle rlt
  rw [hN, e2, ← h, hf]
  have h1 := sc_le (m := z * z) (n := L) (x := f)
  have h2 := sc_lt (m := z * z) (n := L) (x := f)
  generalize sc (z * z) f = a at *
  generalize sc L f = c at *
  rw [← h1, ← h2]
  constructor
  · constructor
    · intro k
      have k := k.resolve_left hn
      exact Int.le_of_mul_le_mul_right (show a * 2 ^ KN ≤ c * 2 ^ KN by omega) hp
    · intro k
      have := Int.mul_le_mul_of_nonneg_right k (Int.le_of_lt hp)
      exact .inr (by omega)
  · constructor
    · intro k
      have k := k.resolve_left hn
      exact Int.lt_of_mul_lt_mul_right (show a * 2 ^ KN < c * 2 ^ KN by omega) (Int.le_of_lt hp)
    · intro k
      have := Int.mul_lt_mul_of_pos_right k hp
      exact .inr (by omega)
theorem root_tog {N L f z e r : Int} {hf m left : Bool} {B : Nat} (hB : B = 400) (he : -10000 ≤ e ∧ e ≤ 10000) (hfe : e + e = f) (hN : N = sc L f * 2 ^ KN) (hz0 : 0 < z) (hz1 : z < 2 ^ B)
    (hg : 18014398509481984 ≤ z) (h1 : z * z ≤ L) (h2 : L < (z + 1) * (z + 1)) (hl : left = decide (z * z < L)) (t : Tow (sc z e) r hf m) : Tog (rle N) (rlt N) r hf (m || left) := by
  apply tog_near (rcut N) (by omega) hz0 (lt_390 hB hz1).2 (.inl hg) t
  · exact (root_le he.1 hfe hN hz0).1.2 h1
  · rw [two_sc]
    intro k
    have := (root_le he.1 hfe hN (show 0 < z + 1 by omega)).1.1 k
    omega
  · rw [hl, decide_eq_true_iff]
    exact (root_le he.1 hfe hN hz0).2.symm
/-- what is told by classes -/
def qc (x y : Int) : Int × Bool :=
  if F.cls x = 5 ∨ F.cls y = 5 then (9221120237041090560, true)
  else if F.cls x = F.cls y ∧ (F.cls x = 4 ∨ F.cls x = 1) then (9221120237041090560, true)
  else if F.cls x = 4 ∨ F.cls y = 1 then (sp x y + 9218868437227405312, true)
  else if F.cls x = 1 ∨ F.cls y = 4 then (sp x y, true)
  else (0, false)
noncomputable def DT (x y mode : Int) : Int × Bool × Int :=
  if ¬ (0 ≤ mode ∧ mode ≤ 4) then (0, false, 1)
  else if (qc x y).2 = true then ((qc x y).1, false, 0)
  else RT (F.sgn x != F.sgn y) (qle (ab x * 2 ^ KN) (ab y)) (qlt (ab x * 2 ^ KN) (ab y)) mode
noncomputable def ST (x mode : Int) : Int × Bool × Int :=
  if ¬ (0 ≤ mode ∧ mode ≤ 4) then (0, false, 1)
  else if F.cls x = 1 ∨ x = 9218868437227405312 then (x, false, 0)
  else if F.cls x = 5 ∨ F.sgn x = true then (9221120237041090560, false, 0)
  else RT false (rle (ab x * 2 ^ KN)) (rlt (ab x * 2 ^ KN)) mode
theorem qc_no {x y : Int} (hx : 0 ≤ x ∧ x ≤ 18446744073709551615) (hy : 0 ≤ y ∧ y ≤ 18446744073709551615) : (qc x y).2 = false ↔ fi x ∧ fi y ∧ val x ≠ 0 ∧ val y ≠ 0 := by
  have a := F.cls_bd x
  have b := F.cls_bd y
  have e : (qc x y).2 = false ↔ (F.cls x ≤ 3 ∧ F.cls y ≤ 3 ∧ F.cls x ≠ 1 ∧ F.cls y ≠ 1) := by
    unfold qc
    by_cases h1 : F.cls x = 5 ∨ F.cls y = 5
    · rw [if_pos h1]; simp; omega
    · rw [if_neg h1]
      by_cases h2 : F.cls x = F.cls y ∧ (F.cls x = 4 ∨ F.cls x = 1)
      · rw [if_pos h2]; simp; omega
      · rw [if_neg h2]
        by_cases h3 : F.cls x = 4 ∨ F.cls y = 1
        · rw [if_pos h3]; simp; omega
        · rw [if_neg h3]
          by_cases h4 : F.cls x = 1 ∨ F.cls y = 4
          · rw [if_pos h4]; simp; omega
          · rw [if_neg h4]; simp; omega
  rw [e]
  constructor
  · rintro ⟨h1, h2, h3, h4⟩
    have f := (fi_cls hx).2 h1
    have g := (fi_cls hy).2 h2
    exact ⟨f, g, fun h => h3 ((val0 f).1 h), fun h => h4 ((val0 g).1 h)⟩
  · rintro ⟨f, g, h3, h4⟩
    exact ⟨(fi_cls hx).1 f, (fi_cls hy).1 g, fun h => h3 ((val0 f).2 h), fun h => h4 ((val0 g).2 h)⟩
theorem DT_no {x y mode : Int} (h : ¬ (0 ≤ mode ∧ mode ≤ 4)) : DT x y mode = (0, false, 1) := by unfold DT; rw [if_pos h]
theorem DT_qc {x y mode : Int} (hm : 0 ≤ mode ∧ mode ≤ 4) (h : (qc x y).2 = true) : DT x y mode = ((qc x y).1, false, 0) := by
  unfold DT; rw [if_neg (by simpa using hm), if_pos h]
theorem DT_fi {x y mode : Int} (hm : 0 ≤ mode ∧ mode ≤ 4) (h : (qc x y).2 = false) : DT x y mode = RT (F.sgn x != F.sgn y) (qle (ab x * 2 ^ KN) (ab y)) (qlt (ab x * 2 ^ KN) (ab y)) mode := by
  unfold DT; rw [if_neg (by simpa using hm), if_neg (by rw [h]; simp)]
theorem qc_bd (x y : Int) : 0 ≤ (qc x y).1 ∧ (qc x y).1 ≤ 18446744073709551615 := by
  unfold qc
  rcases sp2 x y with h | h <;> rw [h] <;> (repeat (first | split | simp))
theorem ST_no {x mode : Int} (h : ¬ (0 ≤ mode ∧ mode ≤ 4)) : ST x mode = (0, false, 1) := by unfold ST; rw [if_pos h]
theorem ST_self {x mode : Int} (hm : 0 ≤ mode ∧ mode ≤ 4) (h : F.cls x = 1 ∨ x = 9218868437227405312) : ST x mode = (x, false, 0) := by
  unfold ST; rw [if_neg (by simpa using hm), if_pos h]
theorem ST_nan {x mode : Int} (hm : 0 ≤ mode ∧ mode ≤ 4) (h : ¬ (F.cls x = 1 ∨ x = 9218868437227405312)) (h' : F.cls x = 5 ∨ F.sgn x = true) : ST x mode = (9221120237041090560, false, 0) := by
  unfold ST; rw [if_neg (by simpa using hm), if_neg h, if_pos h']
theorem ST_fi {x mode : Int} (hm : 0 ≤ mode ∧ mode ≤ 4) (h : ¬ (F.cls x = 1 ∨ x = 9218868437227405312)) (h' : ¬ (F.cls x = 5 ∨ F.sgn x = true)) : ST x mode = RT false (rle (ab x * 2 ^ KN)) (rlt (ab x * 2 ^ KN)) mode := by
  unfold ST; rw [if_neg (by simpa using hm), if_neg h, if_neg h']
theorem st_fi {x : Int} (hx : 0 ≤ x ∧ x ≤ 18446744073709551615) (h : ¬ (F.cls x = 1 ∨ x = 9218868437227405312)) (h' : ¬ (F.cls x = 5 ∨ F.sgn x = true)) : fi x ∧ val x ≠ 0 ∧ F.sgn x = false := by
  have a := F.cls_bd x
  have hs : F.sgn x = false := by cases k : F.sgn x; rfl; exact absurd (.inr k) h'
  have h4 : F.cls x ≠ 4 := fun k => by
    rcases (cls_inf hx.1 hx.2).1 k with rfl | rfl
    · exact h (.inr rfl)
    · exact absurd hs (by decide)
  have f := (fi_cls hx).2 (by omega)
  exact ⟨f, fun k => h (.inl ((val0 f).1 k)), hs⟩
end JC
end Go.Proofs.YtpmjeipdldnnbaaDoor

/-
  Package prod, pure: Dot.
-/
namespace Go.Proofs.YtpmjeipdldnnbaaDoor
set_option linter.unusedVariables false
set_option linter.unusedSimpArgs false
open Go.RowKit
set_option linter.unusedVariables false
set_option linter.unusedSimpArgs false
namespace PC
open L NC NK DC RC SC
/-- the sum of products, by Dyads and by values -/
def pt : List Int → Dy → Dy
  | x :: y :: t, d => pt t (DC.Add d (PD x y).d).d
  | [_], d => d
  | [], d => d
def ps : List Int → Int
  | x :: y :: t => S (PD x y).d + ps t
  | [_] => 0
  | [] => 0
/-- is there one that has no value -/
def nf (L : List Int) : Bool := L.any fun x => F.exq x == 2047
noncomputable def DT (L : List Int) (mode : Int) : Int × Bool × Int :=
  if ¬ (0 ≤ mode ∧ mode ≤ 4) then (0, false, 1)
  else if L.length % 2 ≠ 0 then (0, false, 3)
  else if 200 < L.length then (0, false, 2)
  else if nf L = true then (0, false, 4)
  else (TX (pt L dz) mode, TL (pt L dz) mode, 0)
theorem pt_append : ∀ (a b : List Int) (d : Dy), a.length % 2 = 0 → pt (a ++ b) d = pt b (pt a d)
  | [], b, d, _ => by simp [pt]
  | [x], b, d, h => by simp at h
  | x :: y :: t, b, d, h => by
    simp only [List.cons_append, pt]
    exact pt_append t b _ (by simp at h; omega)
theorem ps_append : ∀ (a b : List Int), a.length % 2 = 0 → ps (a ++ b) = ps a + ps b
  | [], b, _ => by simp [ps]
  | [x], b, h => by simp at h
  | x :: y :: t, b, h => by
    simp only [List.cons_append, ps]
    rw [ps_append t b (by simp at h; omega)]
    omega
theorem ps_rev : ∀ (a : List Int), a.length % 2 = 0 → (∀ x ∈ a, fi x) → ps a.reverse = ps a
  | [], _, _ => rfl
  | [x], h, _ => by simp at h
  | x :: y :: t, h, hf => by
    have ht : t.length % 2 = 0 := by simp at h; omega
    have e : (x :: y :: t).reverse = t.reverse ++ [y, x] := by simp
    rw [e, ps_append _ _ (by simpa using ht), ps_rev t ht fun z hz => hf z (by simp [hz])]
    have c := pd_comm (hf x (by simp)) (hf y (by simp))
    simp only [ps]
    rw [c]; omega
theorem pt_fit : ∀ (L : List Int) (d : Dy) (k : Int), (∀ x ∈ L, fi x) → FitP d k → k + L.length ≤ 256 → FitP (pt L d) (k + L.length) ∧ S (pt L d) = S d + ps L
  | [], d, k, _, h, _ => ⟨by simpa [pt] using h, by simp [pt, ps]⟩
  | [x], d, k, _, h, _ => ⟨by simpa [pt] using fitP_mono h (show k ≤ k + 1 by omega), by simp [pt, ps]⟩
  | x :: y :: t, d, k, hL, h, hk => by
    rw [List.length_cons, List.length_cons] at hk
    have p := (pd_p (hL x (by simp)) (hL y (by simp)) rfl).2.1
    obtain ⟨-, a2, a3⟩ := add_fitP h p (by omega)
    obtain ⟨b1, b2⟩ := pt_fit t (DC.Add d (PD x y).d).d (k + 1) (fun z hz => hL z (by simp [hz])) a2 (by omega)
    refine ⟨?_, ?_⟩
    · rw [List.length_cons, List.length_cons]
      exact fitP_mono b1 (by omega)
    · show S (pt t (DC.Add d (PD x y).d).d) = S d + (S (PD x y).d + ps t)
      rw [b2, a3]; omega
theorem pt_ok {L : List Int} (h : ∀ x ∈ L, fi x) (hl : ¬ 200 < L.length) : Ok (pt L dz) ∧ S (pt L dz) = ps L := by
  have := pt_fit L dz 0 h fitP_zero (by omega)
  refine ⟨this.1.ok, ?_⟩
  rw [this.2, show S dz = 0 from sc_zero.2 rfl]; omega
theorem nf_fi {L : List Int} (hu : u64s L) : nf L = false ↔ ∀ x ∈ L, fi x := by
  unfold nf
  rw [List.any_eq_false]
  constructor
  · intro h x hx; exact ⟨(hu x hx).1, (hu x hx).2, by simpa using h x hx⟩
  · intro h x hx; simpa using (h x hx).2.2
theorem DT_no {L : List Int} {mode : Int} (h : ¬ (0 ≤ mode ∧ mode ≤ 4)) : DT L mode = (0, false, 1) := by unfold DT; rw [if_pos h]
theorem DT_odd {L : List Int} {mode : Int} (hm : 0 ≤ mode ∧ mode ≤ 4) (h : L.length % 2 ≠ 0) : DT L mode = (0, false, 3) := by unfold DT; rw [if_neg (by simpa using hm), if_pos h]
theorem DT_large {L : List Int} {mode : Int} (hm : 0 ≤ mode ∧ mode ≤ 4) (h : L.length % 2 = 0) (h2 : 200 < L.length) : DT L mode = (0, false, 2) := by unfold DT; rw [if_neg (by simpa using hm), if_neg (by simpa using h), if_pos h2]
theorem DT_nf {L : List Int} {mode : Int} (hm : 0 ≤ mode ∧ mode ≤ 4) (h : L.length % 2 = 0) (h2 : ¬ 200 < L.length) (h3 : nf L = true) : DT L mode = (0, false, 4) := by unfold DT; rw [if_neg (by simpa using hm), if_neg (by simpa using h), if_neg h2, if_pos h3]
theorem DT_fi {L : List Int} {mode : Int} (hm : 0 ≤ mode ∧ mode ≤ 4) (h : L.length % 2 = 0) (h2 : ¬ 200 < L.length) (h3 : nf L = false) : DT L mode = (TX (pt L dz) mode, TL (pt L dz) mode, 0) := by unfold DT; rw [if_neg (by simpa using hm), if_neg (by simpa using h), if_neg h2, if_neg (by rw [h3]; simp)]
theorem DT_cases {L : List Int} {mode : Int} : ((DT L mode).2.2 ≠ 0 ∧ (DT L mode).1 = 0) ∨ ((DT L mode).2.2 = 0 ∧ (0 ≤ mode ∧ mode ≤ 4) ∧ L.length % 2 = 0 ∧ ¬ 200 < L.length ∧ nf L = false) := by
  by_cases hm : 0 ≤ mode ∧ mode ≤ 4
  · by_cases h : L.length % 2 = 0
    · by_cases h2 : 200 < L.length
      · left; rw [DT_large hm h h2]; decide
      · cases h3 : nf L
        · right; rw [DT_fi hm h h2 h3]; exact ⟨rfl, hm, h, h2, rfl⟩
        · left; rw [DT_nf hm h h2 h3]; decide
    · left; rw [DT_odd hm h]; decide
  · left; rw [DT_no hm]; decide
theorem nf_rev (L : List Int) : nf L.reverse = nf L := by unfold nf; simp
theorem dot_rev {L : List Int} {mode : Int} (hu : u64s L) : DT L.reverse mode = DT L mode := by
  by_cases hm : 0 ≤ mode ∧ mode ≤ 4
  · by_cases h : L.length % 2 = 0
    · by_cases h2 : 200 < L.length
      · rw [DT_large hm h h2, DT_large hm (by simpa using h) (by simpa using h2)]
      · cases h3 : nf L
        · have f := (nf_fi hu).1 h3
          have f' : ∀ x ∈ L.reverse, fi x := fun x hx => f x (by simpa using hx)
          have a := pt_ok f h2
          have b := pt_ok f' (by simpa using h2)
          have e : pt L.reverse dz = pt L dz := S_inj b.1 a.1 (by rw [a.2, b.2, ps_rev L h f])
          rw [DT_fi hm h h2 h3, DT_fi hm (by simpa using h) (by simpa using h2) (by rw [nf_rev]; exact h3), e]
        · rw [DT_nf hm h h2 h3, DT_nf hm (by simpa using h) (by simpa using h2) (by rw [nf_rev]; exact h3)]
    · rw [DT_odd hm h, DT_odd hm (by simpa using h)]
  · rw [DT_no hm, DT_no hm]
theorem DT_bd {L : List Int} (mode : Int) (hu : u64s L) : 0 ≤ (DT L mode).1 ∧ (DT L mode).1 ≤ 18446744073709551615 := by
  rcases DT_cases (L := L) (mode := mode) with ⟨-, h⟩ | ⟨-, hm, h, h2, h3⟩
  · rw [h]; omega
  · rw [DT_fi hm h h2 h3]
    have a := pt_ok ((nf_fi hu).1 h3) h2
    have := TX_bd (pt L dz) mode fun _ => a.1
    exact ⟨this.1, this.2.1⟩
theorem dot_two {x y mode : Int} (hx : 0 ≤ x ∧ x ≤ 18446744073709551615) (hy : 0 ≤ y ∧ y ≤ 18446744073709551615) (h : (DT [x, y] mode).2.2 = 0) :
    ∃ p a b, MT x y mode = (p, b, 0) ∧ DT [x, y] mode = (a, b, 0) ∧ (p = a ∨ (F.cls p = 1 ∧ F.cls a = 1)) := by
  rcases DT_cases (L := [x, y]) (mode := mode) with ⟨h1, -⟩ | ⟨-, hm, h1, h2, h3⟩
  · exact absurd h h1
  · have f := (nf_fi (u2 hx hy)).1 h3
    have fx := f x (by simp)
    have fy := f y (by simp)
    obtain ⟨K, hK⟩ : ∃ K : Nat, K = 60000 := ⟨_, rfl⟩
    have p := pd_p fx fy hK
    have a := pt_ok f h2
    have e : pt [x, y] dz = (PD x y).d := S_inj a.1 p.2.1.ok (by rw [a.2]; simp [ps])
    rw [DT_fi hm h1 h2 h3, e]
    cases hb : (bc x y).2
    · rw [MT_fi hm hb]; exact ⟨_, _, _, rfl, rfl, .inl rfl⟩
    · rw [MT_bc hm hb]
      have c1 := (fi_cls hx).1 fx
      have c2 := (fi_cls hy).1 fy
      have h3 : min (F.cls x) (F.cls y) = 1 := by
        rcases Classical.em (min (F.cls x) (F.cls y) = 1) with h3 | h3
        · exact h3
        · exfalso
          unfold bc at hb
          rw [if_neg (by omega), if_neg (by omega), if_neg h3] at hb
          cases hb
      have eb : bc x y = (sp x y, true) := by
        unfold bc
        rw [if_neg (by omega), if_neg (by omega), if_pos h3]
      have h0 : S (PD x y).d = 0 := by
        apply K_inj (K := K)
        rw [p.2.2, Int.zero_mul, Int.mul_eq_zero, val0 fx, val0 fy]
        omega
      have k := TX0 hm p.2.1.ok h0
      rw [eb, k.1, k.2]
      refine ⟨_, _, _, rfl, rfl, .inr ⟨?_, by decide⟩⟩
      rcases sp2 x y with h | h <;> rw [h] <;> decide
end PC
end Go.Proofs.YtpmjeipdldnnbaaDoor

/-
  Package sum: checkMode, isZero, withoutValue, allSame, zero.
-/
namespace Go.Proofs.YtpmjeipdldnnbaaDoor
set_option linter.unusedVariables false
set_option linter.unusedSimpArgs false
open Go.RowKit
set_option linter.unusedVariables false
set_option linter.unusedSimpArgs false
namespace SC
open L NC NK DC RC
theorem checkMode_c (mode : Int) (w : World) (hT : TabD w) : Calls Tryd.prog 125 #[.int .i64 mode] w (DC.RetB w (.int .i64 (if 0 ≤ mode ∧ mode ≤ 4 then 0 else 1))) := by
  have TO := Lib.hid (To_d (.agg #[.bool false, .slice none 0 0, .int .i64 0]) dz mode w (GV.zero w).dv hT)
  have e : TE dz mode = if 0 ≤ mode ∧ mode ≤ 4 then 0 else 1 := by unfold TE; rw [if_neg (by simp [dz])]
  rw [e] at TO
  clear e hT
  generalize (if 0 ≤ mode ∧ mode ≤ 4 then 0 else 1 : Int) = E at *
  generalize TX dz mode = x at *
  generalize TL dz mode = l at *
  go_enter Tryd.func125, Tryd.ntmps125
  go_wp2_with (go_at_call 32; (with_reducible refine (TO.out).mono ?_); rintro e w1 ⟨rfl, hb⟩)
  go_ret
  exact ⟨rfl, hb⟩
theorem isZero_c (b : Bool) (A : Option Addr) (n c : Nat) (x : Int) (w : World) : Calls Tryd.prog 128 #[.agg #[.bool b, .slice A n c, .int .i64 x]] w (DC.RetB w (.bool (decide (n = 0)))) := by
  go_enter Tryd.func128, Tryd.ntmps128
  go_wp2
  go_ret
  exact ⟨ret_bool (by by_cases h : n = 0 <;> simp [h]), (Below.refl _ _).alloc (Nat.le_refl _) _⟩
theorem wv_drop {L : List Int} {k : Nat} {s : Int} {f : Bool} {x : Int} (hk : k < L.length) (hx : L.getD k 0 = x) : wv (L.drop k) s f = if F.cls x = 5 then (9221120237041090560, true) else if F.cls x = 4 then (if f = true ∧ x ≠ s then (9221120237041090560, true) else wv (L.drop (k + 1)) x true) else wv (L.drop (k + 1)) s f := by
  rw [List.drop_eq_getElem_cons hk]
  have e : L[k] = x := by rw [← hx, List.getD_eq_getElem?_getD, List.getElem?_eq_getElem hk]; rfl
  rw [e]; rfl
theorem u64s_at {L : List Int} (h : u64s L) (k : Nat) : 0 ≤ L.getD k 0 ∧ L.getD k 0 ≤ 18446744073709551615 := by
  by_cases hk : k < L.length
  · rw [List.getD_eq_getElem?_getD, List.getElem?_eq_getElem hk]; exact h _ (List.getElem_mem hk)
  · rw [List.getD_eq_getElem?_getD, List.getElem?_eq_none (by omega)]; simp
theorem withoutValue_c (A : Option Addr) (n c : Nat) (L : List Int) (w : World) (hs : Sl .u64 w (.slice A n c) L) (hu : u64s L) (hl : L.length ≤ 200) :
    Calls Tryd.prog 126 #[.slice A n c] w fun e w' => e = .returned (.tuple #[.int .u64 (wv L 0 false).1, .bool (wv L 0 false).2]) ∧ w = w' := by
  have HS := Lib.hid hs
  obtain ⟨A', c', e, hc, hcell⟩ := hs.open_
  injection e with e1 e2 e3
  subst e1
  subst e3
  rw [← e2] at hl hc
  have HN := Lib.hid e2
  have HU := Lib.hid hu
  obtain ⟨R, hR⟩ : ∃ R, wv L 0 false = R := ⟨_, rfl⟩
  rw [hR]
  have HR := Lib.hid hR
  clear e2 hcell hs hu hR
  go_enter Tryd.func126, Tryd.ntmps126
  go_wp2
  go_loop [10, 4, 5] (fun iv sv fv => ∃ (k : Nat) (s : Int) (f : Bool), iv = .int .i64 k ∧ k ≤ n ∧ sv = .int .u64 s ∧ fv = .bool f ∧ Hid (wv (L.drop k) s f = R)) (fun iv _ _ => n - (intOf iv).toNat)
  case atStart => exact ⟨0, 0, false, rfl, by omega, rfl, rfl, HR.out⟩
  case round =>
    obtain ⟨k, s, f, rfl, hk, rfl, rfl, hr⟩ := hrel
    by_cases hkn : k < n
    · obtain ⟨ad, c', e, hc', hb, hcell⟩ := HS.out.at_ k (by rw [← HN.out]; exact hkn)
      injection e with e1 e2 e3
      subst e1
      clear e2 e3 hc' c' hb
      obtain ⟨x, hx⟩ : ∃ x, L.getD k 0 = x := ⟨_, rfl⟩
      have hb := u64s_at HU.out k
      have hd := wv_drop (s := s) (f := f) (by rw [← HN.out]; exact hkn) hx
      rw [hr.out] at hd
      rw [hx] at hcell hb
      have CL : Hid (∀ W : World, Calls Tryd.prog 13 #[.int .u64 x] W fun e w' => e = .returned (.int .i64 (F.cls x)) ∧ W = w') := fun W => FloatC.Class_c x hb.1 hb.2 W
      clear hx hb
      by_cases h5 : F.cls x = 5
      · rw [if_pos h5] at hd
        have t5 : (F.cls x == 5) = true := by rw [h5]; rfl
        subst hd
        generalize F.cls x = K at *
        clear h5
        go_wp2_with (first | (go_at_call 13; (with_reducible refine (CL.out _).mono ?_); rintro e w1 ⟨rfl, rfl⟩))
        go_ret2
        exact ⟨rfl, rfl⟩
      · rw [if_neg h5] at hd
        have t5 : (F.cls x == 5) = false := by rw [beq_eq_false_iff_ne]; exact h5
        by_cases h4 : F.cls x = 4
        · rw [if_pos h4] at hd
          have t4 : (F.cls x == 4) = true := by rw [h4]; rfl
          by_cases hf : f = true ∧ x ≠ s
          · rw [if_pos hf] at hd
            obtain ⟨rfl, hxs⟩ := hf
            have tx : (x != s) = true := by simp [hxs]
            subst hd
            generalize F.cls x = K at *
            clear h5 h4 hxs
            go_wp2_with (first | (go_at_call 13; (with_reducible refine (CL.out _).mono ?_); rintro e w1 ⟨rfl, rfl⟩))
            go_ret2
            exact ⟨rfl, rfl⟩
          · rw [if_neg hf] at hd
            have HD := Lib.hid hd.symm
            have tf : f = false ∨ (f = true ∧ (x != s) = false) := by
              cases f
              · exact .inl rfl
              · right; refine ⟨rfl, ?_⟩
                rcases Classical.em (x = s) with h | h
                · simp [h]
                · exact absurd ⟨rfl, h⟩ hf
            generalize F.cls x = K at *
            clear h5 h4 hf hd
            rcases tf with rfl | ⟨rfl, tx⟩
            all_goals (
              go_wp2_with (first | (go_at_call 13; (with_reducible refine (CL.out _).mono ?_); rintro e w1 ⟨rfl, rfl⟩))
              go_round
              case rel => exact ⟨k + 1, x, true, by go_num, by omega, rfl, rfl, HD.out⟩
              case measure => simp [intOf]; omega)
        · rw [if_neg h4] at hd
          have t4 : (F.cls x == 4) = false := by rw [beq_eq_false_iff_ne]; exact h4
          have HD := Lib.hid hd.symm
          generalize F.cls x = K at *
          clear h5 h4 hd
          go_wp2_with (first | (go_at_call 13; (with_reducible refine (CL.out _).mono ?_); rintro e w1 ⟨rfl, rfl⟩))
          go_round
          case rel => exact ⟨k + 1, s, f, by go_num, by omega, rfl, rfl, HD.out⟩
          case measure => simp [intOf]; omega
    · have hkn2 : k = n := by omega
      subst hkn2
      have he : wv (L.drop k) s f = (s, f) := by rw [HN.out, List.drop_length]; rfl
      rw [hr.out] at he
      subst he
      go_wp2
      go_ret2
      exact ⟨rfl, rfl⟩
theorem clo_c (x y : Int) (ad : Addr) (n c B : Nat) (w : World) (hB : w.cell? ⟨B, 0, none⟩ = some (.slice (some ad) n c)) (h0 : 0 < n) (hy : w.cell? (ad.add 0) = some (.int .u64 y)) :
    Calls Tryd.prog 143 #[.int .u64 x, .pointer (some ⟨B, 0, none⟩)] w fun e w' => e = .returned (.bool (x != y)) ∧ w = w' := by
  have hy2 : w.cell? ad = some (.int .u64 y) := by simpa [Addr.add] using hy
  go_enter Tryd.func143, Tryd.ntmps143
  go_wp2
  go_ret
  exact ⟨rfl, rfl⟩
/-- the first place where the closure says yes -/
theorem IndexFunc_c (A : Option Addr) (n c : Nat) (L : List Int) (B : Nat) (w : World) (hs : Sl .u64 w (.slice A n c) L) (hB : w.cell? ⟨B, 0, none⟩ = some (.slice A n c)) (hl : L.length ≤ 200) (h0 : 0 < n) :
    Calls Tryd.prog 144 #[.slice A n c, .func (.func 143) #[] #[.pointer (some ⟨B, 0, none⟩)]] w fun e w' => ∃ r : Int, e = .returned (.int .i64 r) ∧ decide (r ≥ 0) = !sm L ∧ w = w' := by
  have HS := Lib.hid hs
  obtain ⟨A', c', e, hc, hcell⟩ := hs.open_
  injection e with e1 e2 e3
  subst e1
  subst e3
  rw [← e2] at hl hc
  have HN := Lib.hid e2
  obtain ⟨ad, rfl, hbl, hc0⟩ := hcell 0 (by rw [← e2]; exact h0)
  obtain ⟨y, hy⟩ : ∃ y, L.getD 0 0 = y := ⟨_, rfl⟩
  rw [hy] at hc0
  have eS : sm L = L.all fun x => x == y := by
    unfold sm
    have : L.headD 0 = y := by rw [← hy]; cases L <;> rfl
    rw [this]
  obtain ⟨R, hR⟩ : ∃ R, sm L = R := ⟨_, rfl⟩
  rw [hR] at eS ⊢
  have HR := Lib.hid eS
  have CC : Hid (∀ x : Int, Calls Tryd.prog 143 #[.int .u64 x, .pointer (some ⟨B, 0, none⟩)] w fun e w' => e = .returned (.bool (x != y)) ∧ w = w') := fun x => clo_c x y ad n c B w hB h0 hc0
  clear e2 hcell hs hR hy eS hB hc0
  go_enter Tryd.func144, Tryd.ntmps144
  go_wp2
  go_loop [8] (fun iv => ∃ k : Nat, iv = .int .i64 k ∧ k ≤ n ∧ Hid (∀ x ∈ L.take k, x = y)) (fun iv => n - (intOf iv).toNat)
  case atStart => exact ⟨0, rfl, by omega, by intro x hx; simp at hx⟩
  case round =>
    obtain ⟨k, rfl, hk, hr⟩ := hrel
    by_cases hkn : k < n
    · obtain ⟨ad2, c', e, hc', hb, hcell⟩ := HS.out.at_ k (by rw [← HN.out]; exact hkn)
      injection e with e1 e2 e3
      obtain rfl := Option.some.inj e1
      clear e2 e3 hc' c' hb e1
      obtain ⟨x, hx⟩ : ∃ x, L.getD k 0 = x := ⟨_, rfl⟩
      have hx2 : L[k]? = some x := by
        rw [List.getD_eq_getElem?_getD] at hx
        rw [List.getElem?_eq_getElem (by rw [← HN.out]; exact hkn)] at hx ⊢
        rw [← hx]; rfl
      have HX2 := Lib.hid hx2
      rw [hx] at hcell
      clear hx hx2
      by_cases he : x = y
      · have tx : (x != y) = false := by simp [he]
        have HE := Lib.hid he
        clear he
        go_wp2_with (go_at_call 143; (with_reducible refine (CC.out _).mono ?_); rintro e w1 ⟨rfl, rfl⟩)
        go_round
        case rel => exact ⟨k + 1, by go_num, by omega, by
          intro z hz
          rw [List.take_add_one, HX2.out] at hz
          simp at hz
          rcases hz with hz | rfl
          · exact hr.out z hz
          · exact HE.out⟩
        case measure => simp [intOf]; omega
      · have tx : (x != y) = true := by simp [he]
        have HE := Lib.hid he
        clear he
        go_wp2_with (go_at_call 143; (with_reducible refine (CC.out _).mono ?_); rintro e w1 ⟨rfl, rfl⟩)
        go_ret
        refine ⟨_, rfl, ?_, rfl⟩
        have hR : R = false := by
          rw [HR.out, List.all_eq_false]
          refine ⟨x, List.mem_of_getElem? HX2.out, ?_⟩
          simpa using HE.out
        rw [hR]
        simp
    · have hkn2 : k = n := by omega
      subst hkn2
      have hR : R = true := by
        rw [HR.out, List.all_eq_true]
        intro x hx
        have := hr.out x (by rw [HN.out, List.take_length]; exact hx)
        simp [this]
      go_wp2
      go_ret
      exact ⟨_, rfl, by first | decide | (rw [hR]; decide), rfl⟩
theorem ContainsFunc_c (A : Option Addr) (n c : Nat) (L : List Int) (B : Nat) (w : World) (hs : Sl .u64 w (.slice A n c) L) (hB : w.cell? ⟨B, 0, none⟩ = some (.slice A n c)) (hl : L.length ≤ 200) (h0 : 0 < n) :
    Calls Tryd.prog 142 #[.slice A n c, .func (.func 143) #[] #[.pointer (some ⟨B, 0, none⟩)]] w fun e w' => e = .returned (.bool (!sm L)) ∧ w = w' := by
  have IF := Lib.hid (IndexFunc_c A n c L B w hs hB hl h0)
  obtain ⟨R, hR⟩ : ∃ R, sm L = R := ⟨_, rfl⟩
  rw [hR] at IF ⊢
  clear hs hB hl h0 hR
  go_enter Tryd.func142, Tryd.ntmps142
  go_wp2_with (go_at_call 144; (with_reducible refine (IF.out).mono ?_); rintro e w1 ⟨r, rfl, hr, rfl⟩; have HR := Lib.hid hr; clear hr)
  go_ret
  exact ⟨ret_bool HR.out, rfl⟩
theorem allSame_c (A : Option Addr) (n c : Nat) (L : List Int) (w : World) (hs : Sl .u64 w (.slice A n c) L) (hl : L.length ≤ 200) (h0 : 0 < n) :
    Calls Tryd.prog 140 #[.slice A n c] w (DC.RetB w (.bool (sm L))) := by
  have hs2 := hs.alloc (.cells #[.slice A n c] 122)
  have D0 := al1 w (.cells #[.slice A n c] 122)
  have hB := (Blk.new w 122 #[.slice A n c]).at_ 0 rfl
  obtain ⟨W0, hW0⟩ : ∃ W0, w.alloc (.cells #[.slice A n c] 122) = W0 := ⟨_, rfl⟩
  rw [hW0] at hs2 D0 hB
  have CF := Lib.hid (ContainsFunc_c A n c L w.heap.size W0 hs2 hB hl h0)
  have HW0 := Lib.hid hW0
  have D0 := Lib.hid D0
  obtain ⟨R, hR⟩ : ∃ R, sm L = R := ⟨_, rfl⟩
  rw [hR] at CF ⊢
  clear hs hs2 hW0 hR hl
  go_enter Tryd.func140, Tryd.ntmps140
  go_wp2_with (go_at_call 142; rw [HW0.out]; (with_reducible refine (CF.out).mono ?_); rintro e w1 ⟨rfl, rfl⟩)
  go_ret
  exact ⟨ret_bool (by simp), D0.out⟩
theorem zero_c (A : Option Addr) (n c : Nat) (L : List Int) (mode : Int) (w : World) (hs : Sl .u64 w (.slice A n c) L) (hl : L.length ≤ 200) :
    Calls Tryd.prog 129 #[.slice A n c, .int .i64 mode] w (DC.RetB w (.int .u64 (ZR L mode))) := by
  obtain ⟨A', c', e, hc, hcell⟩ := hs.open_
  injection e with e1 e2 e3
  subst e1
  subst e3
  unfold ZR
  by_cases h0 : L = []
  · rw [if_pos h0]
    have hn : n = 0 := by rw [e2, h0]; rfl
    clear hcell hs e2 hc
    subst hn
    go_enter Tryd.func129, Tryd.ntmps129
    go_wp2
    go_ret
    exact ⟨rfl, Below.refl _ _⟩
  · rw [if_neg h0]
    have hn : 0 < n := by rw [e2]; exact List.length_pos_iff.2 h0
    have AS := Lib.hid (allSame_c A n c L w hs hl hn)
    obtain ⟨ad, rfl, hbl, hc0⟩ := hcell 0 (by rw [← e2]; exact hn)
    have hy : L.getD 0 0 = L.headD 0 := by cases L <;> rfl
    rw [hy] at hc0
    obtain ⟨y, hy⟩ : ∃ y, L.headD 0 = y := ⟨_, rfl⟩
    rw [hy] at hc0 ⊢
    rw [← e2] at hl
    obtain ⟨R, hR⟩ : ∃ R, sm L = R := ⟨_, rfl⟩
    rw [hR] at AS ⊢
    have hn0 : (n : Int) ≠ 0 := by omega
    have K0 : Hid (∀ W, Below w.heap.size w W → W.cell? ad = some (.int .u64 y)) := fun W hW => by
      have h9 : w.cell? ad = some (.int .u64 y) := by simpa [Addr.add] using hc0
      exact (hW.cell hbl).trans h9
    clear hcell hs hy hR h0 hc0 e2
    cases R
    · rw [if_neg (by simp)]
      by_cases hm : mode = 2
      · subst hm
        rw [if_pos rfl]
        go_enter Tryd.func129, Tryd.ntmps129
        go_wp2_with (go_at_call 140; (with_reducible refine (AS.out).mono ?_); rintro e w1 ⟨rfl, hb⟩; have hb := Lib.hid hb)
        go_ret
        exact ⟨rfl, hb.out⟩
      · rw [if_neg hm]
        have tm : (mode == 2) = false := by simp [hm]
        clear hm
        go_enter Tryd.func129, Tryd.ntmps129
        go_wp2_with (go_at_call 140; (with_reducible refine (AS.out).mono ?_); rintro e w1 ⟨rfl, hb⟩; have hb := Lib.hid hb)
        go_ret
        exact ⟨rfl, hb.out⟩
    · rw [if_pos rfl]
      go_enter Tryd.func129, Tryd.ntmps129
      go_wp2_with (go_at_call 140; (with_reducible refine (AS.out).mono ?_); rintro e w1 ⟨rfl, hb⟩; have k0 := K0.out _ hb; have hb := Lib.hid hb)
      go_ret
      exact ⟨rfl, hb.out⟩
end SC
end Go.Proofs.YtpmjeipdldnnbaaDoor

/-
  Package sum: exact.
-/
namespace Go.Proofs.YtpmjeipdldnnbaaDoor
set_option linter.unusedVariables false
set_option linter.unusedSimpArgs false
open Go.RowKit
set_option linter.unusedVariables false
set_option linter.unusedSimpArgs false
namespace SC
open L NC NK DC RC
theorem tot_append (a b : List Int) (d : Dy) : tot (a ++ b) d = tot b (tot a d) := by
  induction a generalizing d with
  | nil => rfl
  | cons x t ih => simp only [List.cons_append, tot]; exact ih _
theorem tot_succ {L : List Int} {k : Nat} {x : Int} (hx : L[k]? = some x) (d : Dy) : tot (L.take (k + 1)) d = (DC.Add (tot (L.take k) d) (OfD x).d).d := by
  rw [List.take_add_one, hx, tot_append]; rfl
/-- a Dyad told by value -/
def RetG (w : World) (d : Dy) (e : Ending) (w' : World) : Prop := ∃ b A n c x, e = .returned (.agg #[.bool b, .slice A n c, .int .i64 x]) ∧ GV w' b A n c x d ∧ Below w.heap.size w w'
/-- behind both allocations -/
theorem two0 (w : World) : ∃ W0, (w.alloc (.cells #[.bool false, .slice none 0 0, .int .i64 0] 35)).alloc (.cells #[.bool false, .slice none 0 0, .int .i64 0] 35) = W0 ∧ Below w.heap.size w W0 ∧ W0.heap.size = w.heap.size + 2 ∧
    Blk W0 w.heap.size 35 #[.bool false, .slice none 0 0, .int .i64 0] ∧ Blk W0 (w.heap.size + 1) 35 #[.bool false, .slice none 0 0, .int .i64 0] := by
  refine ⟨_, rfl, (al1 w _).trans ((al1 _ _).mono (by simp)), by simp, (Blk.new w _ _).alloc _, ?_⟩
  have := Blk.new (w.alloc (.cells #[.bool false, .slice none 0 0, .int .i64 0] 35)) 35 #[.bool false, .slice none 0 0, .int .i64 0]
  rwa [show (w.alloc (.cells #[.bool false, .slice none 0 0, .int .i64 0] 35)).heap.size = w.heap.size + 1 by simp] at this
/-- what the loop of exact keeps: the result's cell, the total, its value -/
structure EX (w W : World) (b : Bool) (A : Option Addr) (n c : Nat) (x : Int) (d : Dy) : Prop where
  r : Blk W w.heap.size 35 #[.bool false, .slice none 0 0, .int .i64 0]
  t : Blk W (w.heap.size + 1) 35 #[.bool b, .slice A n c, .int .i64 x]
  g : GV W b A n c x d
  b : Below w.heap.size w W
theorem EX.size {w W : World} {b A n c x d} (h : EX w W b A n c x d) : w.heap.size + 1 < W.heap.size := h.t.lt
theorem EX.below {w W W' : World} {b A n c x d} (h : EX w W b A n c x d) (hb : Below W.heap.size W W') : EX w W' b A n c x d :=
  ⟨h.r.below hb (by have := h.size; omega), h.t.below hb h.size, h.g.below hb, h.b.trans (hb.mono h.b.size)⟩
theorem EX.set {w W : World} {b A n c x d b' A' n' c' x' d'} (h : EX w W b A n c x d) (g : GV W b' A' n' c' x' d') :
    EX w (((W.setCell ⟨w.heap.size + 1, 0, none⟩ (.bool b')).setCell ⟨w.heap.size + 1, 1, none⟩ (.slice A' n' c')).setCell ⟨w.heap.size + 1, 2, none⟩ (.int .i64 x')) b' A' n' c' x' d' := by
  refine ⟨?_, Blk3 h.t _ _ _, g.set3 h.t _ _ _ (by intro z h; cases h) (by intro z h; cases h), below3 h.b (by omega) _ _ _⟩
  exact ((h.r.far (by simp) _).far (by simp) _).far (by simp) _
set_option maxRecDepth 100000 in
theorem exact_c (A : Option Addr) (n c : Nat) (L : List Int) (w : World) (hs : Sl .u64 w (.slice A n c) L) (hf : ∀ x ∈ L, fi x) (hl : L.length ≤ 200) (hT : TabD w) :
    Calls Tryd.prog 127 #[.slice A n c] w (RetG w (tot L dz)) := by
  have HS : Hid (∀ W, Below w.heap.size w W → Sl .u64 W (.slice A n c) L) := fun W hW => hs.below hW
  obtain ⟨A', c', e, hc, hcell⟩ := hs.open_
  injection e with e1 e2 e3
  subst e1
  subst e3
  rw [← e2] at hl hc
  have HN := Lib.hid e2
  have HF := Lib.hid hf
  have OF : Hid (∀ (W : World) (x : Int), fi x → Below w.heap.size w W → Calls Tryd.prog 28 #[.int .u64 x] W (RetD W (OfD x))) := fun W x hx hW => Of_d x hx.1 hx.2.1 W (hT.below hW)
  have AD : Hid (∀ (W : World) (u v : Value) (d1 d2 : Dy), DV W u d1 → DV W v d2 → Below w.heap.size w W → Calls Tryd.prog 64 #[u, v] W (RetD W (DC.Add d1 d2))) := fun W u v d1 d2 h1 h2 hW => Add_d u v d1 d2 W h1 h2 (hT.below hW)
  obtain ⟨W0, hW0, D0, SZ, R0, T0⟩ := two0 w
  have E0 : Hid (EX w W0 false none 0 0 0 dz) := ⟨R0, T0, GV.zero _, D0⟩
  have HW0 := Lib.hid hW0
  clear e2 hcell hs hf hT hW0 D0 SZ R0 T0
  go_enter Tryd.func127, Tryd.ntmps127
  go_wp2
  rw [HW0.out]
  go_loopw [10] (fun iv wr => ∃ (k : Nat) (b : Bool) (A' : Option Addr) (n' c' : Nat) (x' : Int), iv = .int .i64 k ∧ k ≤ n ∧ Hid (EX w wr b A' n' c' x' (tot (L.take k) dz))) (fun iv _ => n - (intOf iv).toNat)
  case atStart => exact ⟨0, _, _, _, _, _, rfl, by omega, E0.out⟩
  case round =>
    obtain ⟨k, bt, At, nt, ct, xt, rfl, hk, hE⟩ := hrel
    by_cases hkn : k < n
    · obtain ⟨ad, c', e, hc', hb, hcell⟩ := (HS.out _ hE.out.b).at_ k (by rw [← HN.out]; exact hkn)
      injection e with e1 e2 e3
      subst e1
      clear e2 e3 hc' c' hb
      obtain ⟨x, hx⟩ : ∃ x, L.getD k 0 = x := ⟨_, rfl⟩
      have hx2 : L[k]? = some x := by
        rw [List.getD_eq_getElem?_getD] at hx
        rw [List.getElem?_eq_getElem (by rw [← HN.out]; exact hkn)] at hx ⊢
        rw [← hx]; rfl
      have hfx : fi x := HF.out x (List.mem_of_getElem? hx2)
      have hd := tot_succ hx2 dz
      rw [hx] at hcell
      have HD := Lib.hid hd
      have HX := Lib.hid hfx
      obtain ⟨dt, hdt⟩ : ∃ dt, tot (L.take k) dz = dt := ⟨_, rfl⟩
      rw [hdt] at hE HD
      clear hx hx2 hfx hd hdt
      go_wp2_with (first
        | (go_at_call 28; (with_reducible refine (OF.out _ _ HX.out hE.out.b).mono ?_); rintro e w2 ⟨b2, A2, n2, c2, x2, rfl, hv2, hb2⟩; have s := hb2.alloc hb2.size (.cells #[.bool b2, .slice A2 n2 c2, .int .i64 x2] 35); have X2 := BD.new hv2.dv; have E2 := hE.out.below s; clear hv2 hb2 s; obtain ⟨q0, q1, q2⟩ := X2.bx; have p0 := E2.t.at_ 0 rfl; have p1 := E2.t.at_ 1 rfl; have p2 := E2.t.at_ 2 rfl; have E2 := Lib.hid E2)
        | (go_at_call 64; (with_reducible refine (AD.out _ _ _ _ _ E2.out.g.dv X2.dv E2.out.b).mono ?_); rintro e w3 ⟨b3, A3, n3, c3, x3, rfl, hv3, hb3⟩; have E3 := E2.out.below hb3; have p0 := E3.t.at_ 0 rfl; have p1 := E3.t.at_ 1 rfl; have p2 := E3.t.at_ 2 rfl; have f0 := E3.t.frozen 0; have f1 := E3.t.frozen 1; have f2 := E3.t.frozen 2; have E4 := Lib.hid (E3.set hv3); clear E3 hv3 hb3))
      go_roundw
      case rel => exact ⟨k + 1, _, _, _, _, _, by go_num, by omega, by rw [HD.out]; exact E4.out⟩
      case measure => simp [intOf]; omega
    · have hkn2 : k = n := by omega
      subst hkn2
      have he : L.take k = L := by rw [HN.out, List.take_length]
      rw [he] at hE
      have p0 := hE.out.t.at_ 0 rfl
      have p1 := hE.out.t.at_ 1 rfl
      have p2 := hE.out.t.at_ 2 rfl
      have t0 := hE.out.r.at_ 0 rfl
      have t1 := hE.out.r.at_ 1 rfl
      have t2 := hE.out.r.at_ 2 rfl
      have f0 := hE.out.r.frozen 0
      have f1 := hE.out.r.frozen 1
      have f2 := hE.out.r.frozen 2
      clear he
      go_wp2
      exact bodyPost_ret (v := .agg #[.bool bt, .slice At nt ct, .int .i64 xt]) (by simp [results, Tryd.results127, go_sem, t0, t1, t2]) rfl
        ⟨_, _, _, _, _, rfl, hE.out.g.set3 hE.out.r _ _ _ (by intro z h; cases h) (by intro z h; cases h), below3 hE.out.b (by omega) _ _ _⟩
end SC
end Go.Proofs.YtpmjeipdldnnbaaDoor

/-
  Package sum: All.
-/
namespace Go.Proofs.YtpmjeipdldnnbaaDoor
set_option linter.unusedVariables false
set_option linter.unusedSimpArgs false
open Go.RowKit
set_option linter.unusedVariables false
set_option linter.unusedSimpArgs false
namespace SC
open L NC NK DC RC
/-- what All, Add and Sub tell -/
def ATv (t : Int × Bool × Int) : Value := .tuple #[.int .u64 t.1, .bool t.2.1, .int .i64 t.2.2]
set_option maxRecDepth 100000 in
theorem All_c (A : Option Addr) (n c : Nat) (L : List Int) (mode : Int) (w : World) (hs : Sl .u64 w (.slice A n c) L) (hu : u64s L) (hl : L.length ≤ 9223372036854775807) (hT : TabD w) :
    Calls Tryd.prog 106 #[.slice A n c, .int .i64 mode] w (DC.RetB w (ATv (AT L mode))) := by
  obtain ⟨A', c', e, hc, hcell⟩ := hs.open_
  injection e with e1 e2 e3
  subst e1
  subst e3
  clear hcell
  have CM := Lib.hid (checkMode_c mode w hT)
  by_cases hm : 0 ≤ mode ∧ mode ≤ 4
  · rw [if_pos hm] at CM
    by_cases h2 : 200 < n
    · rw [AT_large hm (by rw [← e2]; exact h2)]
      have h3 : (n : Int) > 200 := by omega
      rw [← e2] at hl
      unfold ATv
      clear hs hu hm hT e2 hc h2
      go_enter Tryd.func106, Tryd.ntmps106
      go_wp2_with (go_at_call 125; (with_reducible refine (CM.out).mono ?_); rintro e w1 ⟨rfl, hb⟩; have hb := Lib.hid hb)
      go_ret3
      exact ⟨rfl, hb.out⟩
    · have hn : ¬ 200 < L.length := by rw [← e2]; exact h2
      have h3 : ¬ (n : Int) > 200 := by omega
      have WVc : Hid (∀ W, Below w.heap.size w W → Calls Tryd.prog 126 #[.slice A n c] W fun e w' => e = .returned (.tuple #[.int .u64 (wv L 0 false).1, .bool (wv L 0 false).2]) ∧ W = w') := fun W hW => withoutValue_c A n c L W (hs.below hW) hu (by omega)
      by_cases hf : ∀ x ∈ L, fi x
      · have hw := (wv_fin hu).2 hf
        rw [hw] at WVc
        generalize (wv L 0 false).1 = v1 at *
        have EXc : Hid (∀ W, Below w.heap.size w W → Calls Tryd.prog 127 #[.slice A n c] W (RetG W (tot L dz))) := fun W hW => exact_c A n c L W (hs.below hW) hf (by omega) (hT.below hW)
        have ZEc : Hid (∀ W, Below w.heap.size w W → Calls Tryd.prog 129 #[.slice A n c, .int .i64 mode] W (DC.RetB W (.int .u64 (ZR L mode)))) := fun W hW => zero_c A n c L mode W (hs.below hW) (by omega)
        have TOc : Hid (∀ (W : World) (v : Value), DV W v (tot L dz) → Below w.heap.size w W → Calls Tryd.prog 32 #[v, .int .i64 mode] W (DC.RetB W (.tuple #[.int .u64 (TX (tot L dz) mode), .bool (TL (tot L dz) mode), .int .i64 0]))) := fun W v hv hW => by
          have := To_d v _ mode W hv (hT.below hW)
          have e : TE (tot L dz) mode = 0 := by
            unfold TE
            rw [if_neg (by simpa using (tot_ok hf hn).1.1), if_pos hm]
          rwa [e] at this
        have a := AT_fin hm hn hf
        have t := tot_ok hf hn
        rw [← t.2, ← S_m] at a
        rw [← e2] at hl
        obtain ⟨X, hX⟩ : ∃ X, AT L mode = X := ⟨_, rfl⟩
        rw [hX] at a ⊢
        have gz : Hid (∀ (W : World) (b : Bool) (A : Option Addr) (n c : Nat) (x : Int), GV W b A n c x (tot L dz) → (n = 0 ↔ (tot L dz).m = 0)) := fun W b A n c x h => gv_zero h
        generalize TX (tot L dz) mode = tx at *
        generalize TL (tot L dz) mode = tl at *
        generalize tot L dz = d at *
        generalize ZR L mode = z at *
        have hl2 : ¬ (200 : Int) < n := by omega
        clear hs hu hT e2 hc h2 hn hf hw t hX
        by_cases h0 : d.m = 0
        · have ax := a.1 h0
          subst ax
          unfold ATv
          have gz2 : Hid (∀ (W : World) (b : Bool) (A : Option Addr) (n c : Nat) (x : Int), GV W b A n c x d → n = 0) := fun W b A n c x h => (gz.out W b A n c x h).2 h0
          clear a gz TOc h0 hm
          go_enter Tryd.func106, Tryd.ntmps106
          go_wp2_with (first
            | (go_at_call 125; (with_reducible refine (CM.out).mono ?_); rintro e w1 ⟨rfl, hb⟩; have D := Lib.hid hb; clear hb)
            | (go_at_call 126; (with_reducible refine (WVc.out _ D.out).mono ?_); rintro e w2 ⟨rfl, rfl⟩)
            | (go_at_call 127; (with_reducible refine (EXc.out _ D.out).mono ?_); rintro e w3 ⟨b3, A3, n3, c3, x3, rfl, hv, hb⟩; obtain rfl := gz2.out _ _ _ _ _ _ hv; have s := hb.alloc hb.size (.cells #[.bool b3, .slice A3 0 c3, .int .i64 x3] 35); have Xb := BD.new hv.dv; have D := Lib.hid (D.out.trans (s.mono D.out.size)); clear hv hb s; obtain ⟨b_0, b_1, b_2⟩ := Xb.bx)
            | (go_at_call 128; (with_reducible refine (isZero_c _ _ _ _ _ _).mono ?_); rintro e w4 ⟨rfl, hb⟩; have D := Lib.hid (D.out.trans (hb.mono D.out.size)); clear hb)
            | (go_at_call 129; (with_reducible refine (ZEc.out _ D.out).mono ?_); rintro e w5 ⟨rfl, hb⟩; have D := Lib.hid (D.out.trans (hb.mono D.out.size)); clear hb))
          go_ret3
          exact ⟨rfl, D.out⟩
        · have ax := a.2 fun h => h0 (S_m.2 h)
          subst ax
          unfold ATv
          have gz2 : Hid (∀ (W : World) (b : Bool) (A : Option Addr) (n c : Nat) (x : Int), GV W b A n c x d → n ≠ 0) := fun W b A n c x h h1 => h0 ((gz.out W b A n c x h).1 h1)
          clear a gz ZEc h0 hm
          go_enter Tryd.func106, Tryd.ntmps106
          go_wp2_with (first
            | (go_at_call 125; (with_reducible refine (CM.out).mono ?_); rintro e w1 ⟨rfl, hb⟩; have D := Lib.hid hb; clear hb)
            | (go_at_call 126; (with_reducible refine (WVc.out _ D.out).mono ?_); rintro e w2 ⟨rfl, rfl⟩)
            | (go_at_call 127; (with_reducible refine (EXc.out _ D.out).mono ?_); rintro e w3 ⟨b3, A3, n3, c3, x3, rfl, hv, hb⟩; have hn3 := gz2.out _ _ _ _ _ _ hv; have hd3 : decide (n3 = 0) = false := (by simpa using hn3); have s := hb.alloc hb.size (.cells #[.bool b3, .slice A3 n3 c3, .int .i64 x3] 35); have Xb := BD.new hv.dv; have D := Lib.hid (D.out.trans (s.mono D.out.size)); clear hv hb s; obtain ⟨b_0, b_1, b_2⟩ := Xb.bx)
            | (go_at_call 128; (with_reducible refine (isZero_c _ _ _ _ _ _).mono ?_); rintro e w4 ⟨rfl, hb⟩; have Xb := Xb.below hb; have D := Lib.hid (D.out.trans (hb.mono D.out.size)); clear hb; obtain ⟨b_0, b_1, b_2⟩ := Xb.bx)
            | (go_at_call 32; (with_reducible refine (TOc.out _ _ Xb.dv D.out).mono ?_); rintro e w5 ⟨rfl, hb⟩; have D := Lib.hid (D.out.trans (hb.mono D.out.size)); clear hb))
          go_ret3
          exact ⟨rfl, D.out⟩
      · have hw : (wv L 0 false).2 = true := by
          rcases Bool.eq_false_or_eq_true (wv L 0 false).2 with h | h
          · exact h
          · exact absurd ((wv_fin hu).1 h) hf
        rw [hw] at WVc
        have eA : AT L mode = ((wv L 0 false).1, false, 0) := by
          unfold AT
          rw [if_neg (by simpa using hm), if_neg hn, if_pos hw]
        rw [eA]
        generalize (wv L 0 false).1 = v1 at *
        rw [← e2] at hl
        unfold ATv
        clear hs hu hm hT e2 hc h2 hn hf hw eA
        go_enter Tryd.func106, Tryd.ntmps106
        go_wp2_with (first
          | (go_at_call 125; (with_reducible refine (CM.out).mono ?_); rintro e w1 ⟨rfl, hb⟩; have D := Lib.hid hb; clear hb)
          | (go_at_call 126; (with_reducible refine (WVc.out _ D.out).mono ?_); rintro e w2 ⟨rfl, rfl⟩))
        go_ret3
        exact ⟨rfl, D.out⟩
  · rw [if_neg hm] at CM
    rw [AT_no hm]
    unfold ATv
    clear hs hu hm hT e2 hc
    go_enter Tryd.func106, Tryd.ntmps106
    go_wp2_with (go_at_call 125; (with_reducible refine (CM.out).mono ?_); rintro e w1 ⟨rfl, hb⟩; have hb := Lib.hid hb)
    go_ret3
    exact ⟨rfl, hb.out⟩
end SC
end Go.Proofs.YtpmjeipdldnnbaaDoor

/-
  Package sum: Add, Sub.
-/
namespace Go.Proofs.YtpmjeipdldnnbaaDoor
set_option linter.unusedVariables false
set_option linter.unusedSimpArgs false
open Go.RowKit
set_option linter.unusedVariables false
set_option linter.unusedSimpArgs false
namespace SC
open L NC NK DC RC
theorem Add_c (x y mode : Int) (w : World) (hx : 0 ≤ x ∧ x ≤ 18446744073709551615) (hy : 0 ≤ y ∧ y ≤ 18446744073709551615) (hT : TabD w) :
    Calls Tryd.prog 62 #[.int .u64 x, .int .u64 y, .int .i64 mode] w (DC.RetB w (ATv (AT [x, y] mode))) := by
  have D0 := al1 w (.cells #[.int .u64 x, .int .u64 y] 22)
  have hs : Sl .u64 (w.alloc (.cells #[.int .u64 x, .int .u64 y] 22)) (.slice (some ⟨w.heap.size, 0, none⟩) 2 2) [x, y] := Row.sl (k := .u64) (e := 22) (L := [x, y]) (Blk.new w 22 #[.int .u64 x, .int .u64 y]) 2 (by simp)
  obtain ⟨W0, hW0⟩ : ∃ W0, w.alloc (.cells #[.int .u64 x, .int .u64 y] 22) = W0 := ⟨_, rfl⟩
  rw [hW0] at D0 hs
  have AC := Lib.hid (All_c _ _ _ _ mode W0 hs (u2 hx hy) (by simp) (hT.below D0))
  have HW0 := Lib.hid hW0
  have D0 := Lib.hid D0
  obtain ⟨t, ht⟩ : ∃ t, AT [x, y] mode = t := ⟨_, rfl⟩
  rw [ht] at AC ⊢
  obtain ⟨t1, t2, t3⟩ := t
  unfold ATv at AC ⊢
  clear hs hW0 hT ht hx hy
  go_enter Tryd.func62, Tryd.ntmps62
  go_wp2_with (go_at_call 106; rw [HW0.out]; (with_reducible refine (AC.out).mono ?_); rintro e w1 ⟨rfl, hb⟩; have hb := Lib.hid (D0.out.trans (hb.mono D0.out.size)))
  go_ret3
  exact ⟨rfl, hb.out⟩
end SC
end Go.Proofs.YtpmjeipdldnnbaaDoor

/-
  Package prod: checkMode, byClass, exact.
-/
namespace Go.Proofs.YtpmjeipdldnnbaaDoor
set_option linter.unusedVariables false
set_option linter.unusedSimpArgs false
open Go.RowKit
set_option linter.unusedVariables false
set_option linter.unusedSimpArgs false
namespace PC
open L NC NK DC RC SC
theorem checkModeP_c (mode : Int) (w : World) (hT : TabD w) : Calls Tryd.prog 60 #[.int .i64 mode] w (DC.RetB w (.int .i64 (if 0 ≤ mode ∧ mode ≤ 4 then 0 else 1))) := by
  have TO := Lib.hid (To_d (.agg #[.bool false, .slice none 0 0, .int .i64 0]) dz mode w (GV.zero w).dv hT)
  have e : TE dz mode = if 0 ≤ mode ∧ mode ≤ 4 then 0 else 1 := by unfold TE; rw [if_neg (by simp [dz])]
  rw [e] at TO
  clear e hT
  generalize (if 0 ≤ mode ∧ mode ≤ 4 then 0 else 1 : Int) = E at *
  generalize TX dz mode = x at *
  generalize TL dz mode = l at *
  go_enter Tryd.func60, Tryd.ntmps60
  go_wp2_with (go_at_call 32; (with_reducible refine (TO.out).mono ?_); rintro e w1 ⟨rfl, hb⟩)
  go_ret
  exact ⟨rfl, hb⟩
theorem and_top (a : Nat) : a &&& 9223372036854775808 = if a.testBit 63 = true then 9223372036854775808 else 0 := by
  have h2 : (9223372036854775808 : Nat) = 2 ^ 63 := rfl
  have h3 : Nat.testBit 9223372036854775808 63 = true := by decide
  apply Nat.eq_of_testBit_eq
  intro i
  rw [Nat.testBit_and]
  by_cases hi : i = 63
  · subst hi
    rw [h3]
    cases a.testBit 63
    · simp
    · simp [h3]
  · have : Nat.testBit 9223372036854775808 i = false := by rw [h2]; exact Nat.testBit_two_pow_of_ne (by omega)
    rw [this]
    split
    · rw [this]; simp
    · simp
theorem top_bit {x : Int} (h0 : 0 ≤ x) (h1 : x ≤ 18446744073709551615) : x.toNat.testBit 63 = F.sgn x := by
  by_cases h : 9223372036854775808 ≤ x
  · rw [F.sgn_t h, Nat.testBit_eq_decide_div_mod_eq, decide_eq_true_iff]; omega
  · rw [F.sgn_f (by omega), Nat.testBit_eq_decide_div_mod_eq, decide_eq_false_iff_not]; omega
theorem sp_bits {x y : Int} (hx : 0 ≤ x ∧ x ≤ 18446744073709551615) (hy : 0 ≤ y ∧ y ≤ 18446744073709551615) : bits .and .u64 (bits .xor .u64 x y) 9223372036854775808 = sp x y := by
  rw [u64_xor x y hx.1 (by omega) hy.1 (by omega)]
  have hl : x.toNat ^^^ y.toNat < 2 ^ 64 := Nat.xor_lt_two_pow (by omega) (by omega)
  rw [u64_and _ _ (by omega) (by omega) (by decide) (by decide)]
  rw [show (9223372036854775808 : Int).toNat = 9223372036854775808 from rfl, Int.toNat_natCast, and_top, Nat.testBit_xor, top_bit hx.1 hx.2, top_bit hy.1 hy.2]
  unfold sp
  cases F.sgn x <;> cases F.sgn y <;> rfl
set_option maxRecDepth 100000 in
set_option maxHeartbeats 8000000 in
theorem byClass_c (x y : Int) (w : World) (hx : 0 ≤ x ∧ x ≤ 18446744073709551615) (hy : 0 ≤ y ∧ y ≤ 18446744073709551615) :
    Calls Tryd.prog 61 #[.int .u64 x, .int .u64 y] w fun e w' => e = .returned (.tuple #[.int .u64 (bc x y).1, .bool (bc x y).2]) ∧ w = w' := by
  have hs := Lib.hid (sp_bits hx hy)
  have CX : Hid (∀ W : World, Calls Tryd.prog 13 #[.int .u64 x] W fun e w' => e = .returned (.int .i64 (F.cls x)) ∧ W = w') := fun W => FloatC.Class_c x hx.1 hx.2 W
  have CY : Hid (∀ W : World, Calls Tryd.prog 13 #[.int .u64 y] W fun e w' => e = .returned (.int .i64 (F.cls y)) ∧ W = w') := fun W => FloatC.Class_c y hy.1 hy.2 W
  have a := F.cls_bd x
  have b := F.cls_bd y
  have s2 := sp2 x y
  unfold bc
  generalize sp x y = s at *
  obtain ⟨cx, hcx⟩ : ∃ c, F.cls x = c := ⟨_, rfl⟩
  obtain ⟨cy, hcy⟩ : ∃ c, F.cls y = c := ⟨_, rfl⟩
  rw [hcx] at a CX ⊢
  rw [hcy] at b CY ⊢
  have kx : cx = 1 ∨ cx = 2 ∨ cx = 3 ∨ cx = 4 ∨ cx = 5 := by omega
  have ky : cy = 1 ∨ cy = 2 ∨ cy = 3 ∨ cy = 4 ∨ cy = 5 := by omega
  clear hcx hcy a b hx hy
  obtain ⟨r, hr⟩ : ∃ r : Int × Bool, r = (if max cx cy = 5 ∨ (max cx cy = 4 ∧ min cx cy = 1) then (9221120237041090560, true) else if max cx cy = 4 then (s + 9218868437227405312, true) else if min cx cy = 1 then (s, true) else (0, false)) := ⟨_, rfl⟩
  rw [← hr]
  have HR := Lib.hid hr
  clear hr
  obtain ⟨r1, r2⟩ := r
  rcases kx with rfl | rfl | rfl | rfl | rfl <;> rcases ky with rfl | rfl | rfl | rfl | rfl
  all_goals (
    have h2 := HR.out
    clear HR
    first
      | (rw [if_pos (by decide)] at h2)
      | (rw [if_neg (by decide), if_pos (by decide)] at h2)
      | (rw [if_neg (by decide), if_neg (by decide), if_pos (by decide)] at h2)
      | (rw [if_neg (by decide), if_neg (by decide), if_neg (by decide)] at h2)
    obtain ⟨rfl, rfl⟩ := Prod.mk.inj h2
    clear h2
    go_enter Tryd.func61, Tryd.ntmps61
    go_wp2_with (first
      | (go_at_call 13; (with_reducible refine (CX.out _).mono ?_); rintro e w1 ⟨rfl, rfl⟩)
      | (go_at_call 13; (with_reducible refine (CY.out _).mono ?_); rintro e w1 ⟨rfl, rfl⟩))
    go_ret2
    first
      | exact ⟨rfl, rfl⟩
      | (rw [hs.out]; exact ⟨rfl, rfl⟩)
      | (rw [hs.out]; rcases s2 with rfl | rfl <;> exact ⟨rfl, rfl⟩))
set_option maxRecDepth 100000 in
set_option maxHeartbeats 1000000 in
theorem exact_c (x y : Int) (w : World) (hx : 0 ≤ x ∧ x ≤ 18446744073709551615) (hy : 0 ≤ y ∧ y ≤ 18446744073709551615) (hT : TabD w) :
    Calls Tryd.prog 63 #[.int .u64 x, .int .u64 y] w (RetD w (PD x y)) := by
  obtain ⟨W0, hW0, D0, ZS, KB⟩ := res0 w
  have O1 := Lib.hid (Of_d x hx.1 hx.2 W0 (hT.below D0))
  have O2 : Hid (∀ W, Below W0.heap.size W0 W → Calls Tryd.prog 28 #[.int .u64 y] W (RetD W (OfD y))) := fun W hW => Of_d y hy.1 hy.2 W ((hT.below D0).below hW)
  have ML : Hid (∀ (W : World) (u v : Value) (d1 d2 : Dy), DV W u d1 → DV W v d2 → Below W0.heap.size W0 W → Calls Tryd.prog 17 #[u, v] W (RetD W (DC.Mul d1 d2))) := fun W u v d1 d2 h1 h2 hW => Mul_d u v d1 d2 W h1 h2 ((hT.below D0).below hW)
  have KB := Lib.hid KB
  have D0 := Lib.hid D0
  have HW0 := Lib.hid hW0
  have P : Hid (PD x y = if (OfD x).e = 0 then (if (OfD y).e = 0 then DC.Mul (OfD x).d (OfD y).d else ⟨(OfD y).e, dz⟩) else ⟨(OfD x).e, dz⟩) := by
    unfold PD
    by_cases h1 : F.exq x = 2047
    · have e1 : OfD x = ⟨4, dz⟩ := by unfold OfD; rw [if_pos h1]
      rw [if_pos (.inl h1), e1]; rfl
    · have e1 := (of_fit ⟨hx.1, hx.2, h1⟩).1
      rw [if_pos e1]
      by_cases h2 : F.exq y = 2047
      · have e2 : OfD y = ⟨4, dz⟩ := by unfold OfD; rw [if_pos h2]
        rw [if_pos (.inr h2), e2]; rfl
      · have e2 := (of_fit ⟨hy.1, hy.2, h2⟩).1
        rw [if_pos e2, if_neg (by omega)]
        exact rfl
  obtain ⟨rr, hrr⟩ : ∃ rr, PD x y = rr := ⟨_, rfl⟩
  rw [hrr] at P ⊢
  generalize OfD x = r1 at *
  generalize OfD y = r2 at *
  obtain ⟨e1, d1⟩ := r1
  obtain ⟨e2, d2⟩ := r2
  clear hW0 hT hx hy hrr
  by_cases h1 : e1 = 0
  · subst h1
    by_cases h2 : e2 = 0
    · subst h2
      obtain rfl : rr = DC.Mul d1 d2 := P.out
      clear P
      go_enter Tryd.func63, Tryd.ntmps63
      go_wp2_with (first
        | (go_at_call 28; rw [HW0.out]; (with_reducible refine (O1.out).mono ?_); rintro e w5 ⟨b5, A5, n5, c5, x5, rfl, hv5, hb0⟩; have s := hb0.alloc hb0.size (.cells #[.bool b5, .slice A5 n5 c5, .int .i64 x5] 35); have X1 := BD.new hv5.dv; have D := Lib.hid s; clear hv5 hb0 s)
        | (go_at_call 28; (with_reducible refine (O2.out _ D.out).mono ?_); rintro e w6 ⟨b6, A6, n6, c6, x6, rfl, hv6, hb0⟩; have s := hb0.alloc hb0.size (.cells #[.bool b6, .slice A6 n6 c6, .int .i64 x6] 35); have X2 := BD.new hv6.dv; have X1 := X1.below s; have D := Lib.hid (D.out.trans (s.mono D.out.size)); clear hv6 hb0 s; obtain ⟨a_0, a_1, a_2⟩ := X1.bx; obtain ⟨b_0, b_1, b_2⟩ := X2.bx)
        | (go_at_call 17; (with_reducible refine (ML.out _ _ _ _ _ X1.dv X2.dv D.out).mono ?_); rintro e w7 ⟨b7, A7, n7, c7, x7, rfl, hv7, hb0⟩; have D := Lib.hid (D.out.trans (hb0.mono D.out.size)); have R2 := KB.out _ D.out; have t0 := R2.at_ 0 rfl; have t1 := R2.at_ 1 rfl; have t2 := R2.at_ 2 rfl; have f0 := R2.frozen 0; have f1 := R2.frozen 1; have f2 := R2.frozen 2; have R2 := Lib.hid R2))
      exact bodyPost_ret (v := .tuple #[.agg #[.bool b7, .slice A7 n7 c7, .int .i64 x7], .int .i64 (DC.Mul d1 d2).e]) (by simp [results, Tryd.results63, go_sem, t0, t1, t2]) rfl
        ⟨_, _, _, _, _, rfl, hv7.set3 R2.out _ _ _ (by intro z h; cases h) (by intro z h; cases h), below3 (D0.out.trans (D.out.mono D0.out.size)) (by omega) _ _ _⟩
    · have ep := P.out
      simp only [if_pos] at ep
      rw [if_neg h2] at ep
      subst ep
      have t2' : (e2 != 0) = true := by simp [h2]
      clear P ML h2
      go_enter Tryd.func63, Tryd.ntmps63
      go_wp2_with (first
        | (go_at_call 28; rw [HW0.out]; (with_reducible refine (O1.out).mono ?_); rintro e w5 ⟨b5, A5, n5, c5, x5, rfl, hv5, hb0⟩; have s := hb0.alloc hb0.size (.cells #[.bool b5, .slice A5 n5 c5, .int .i64 x5] 35); have D := Lib.hid s; clear hv5 hb0 s)
        | (go_at_call 28; (with_reducible refine (O2.out _ D.out).mono ?_); rintro e w6 ⟨b6, A6, n6, c6, x6, rfl, hv6, hb0⟩; have s := hb0.alloc hb0.size (.cells #[.bool b6, .slice A6 n6 c6, .int .i64 x6] 35); have D := Lib.hid (D.out.trans (s.mono D.out.size)); clear hv6 hb0 s; have R2 := KB.out _ D.out; have t0 := R2.at_ 0 rfl; have t1 := R2.at_ 1 rfl; have t2 := R2.at_ 2 rfl; have f0 := R2.frozen 0; have f1 := R2.frozen 1; have f2 := R2.frozen 2; have R2 := Lib.hid R2))
      exact bodyPost_ret (v := .tuple #[.agg #[.bool false, .slice none 0 0, .int .i64 0], .int .i64 e2]) (by simp [results, Tryd.results63, go_sem, t0, t1, t2]) rfl
        (RetD.none (below3 (D0.out.trans (D.out.mono D0.out.size)) (by omega) _ _ _))
  · have ep := P.out
    rw [if_neg h1] at ep
    subst ep
    have t1' : (e1 != 0) = true := by simp [h1]
    clear P ML O2 h1
    go_enter Tryd.func63, Tryd.ntmps63
    go_wp2_with (first
      | (go_at_call 28; rw [HW0.out]; (with_reducible refine (O1.out).mono ?_); rintro e w5 ⟨b5, A5, n5, c5, x5, rfl, hv5, hb0⟩; have s := hb0.alloc hb0.size (.cells #[.bool b5, .slice A5 n5 c5, .int .i64 x5] 35); have D := Lib.hid s; clear hv5 hb0 s; have R2 := KB.out _ D.out; have t0 := R2.at_ 0 rfl; have t1 := R2.at_ 1 rfl; have t2 := R2.at_ 2 rfl; have f0 := R2.frozen 0; have f1 := R2.frozen 1; have f2 := R2.frozen 2; have R2 := Lib.hid R2))
    exact bodyPost_ret (v := .tuple #[.agg #[.bool false, .slice none 0 0, .int .i64 0], .int .i64 e1]) (by simp [results, Tryd.results63, go_sem, t0, t1, t2]) rfl
      (RetD.none (below3 (D0.out.trans (D.out.mono D0.out.size)) (by omega) _ _ _))
end PC
end Go.Proofs.YtpmjeipdldnnbaaDoor

/-
  Package quot: checkMode, byClass, finish, Div, Sqrt.
-/
namespace Go.Proofs.YtpmjeipdldnnbaaDoor
set_option linter.unusedVariables false
set_option linter.unusedSimpArgs false
open Go.RowKit
set_option linter.unusedVariables false
set_option linter.unusedSimpArgs false
namespace JC
open L NC NK DC RC SC PC
theorem i64_and1 (n : Int) : bits .and .i64 n 1 = n % 2 := by
  have h1 : (BitVec.ofInt 64 1).toNat = 2 ^ 1 - 1 := by decide
  have key : (BitVec.ofInt 64 n &&& BitVec.ofInt 64 1).toNat = (n % ((2 ^ 64 : Nat) : Int)).toNat % 2 ^ 1 := by
    rw [BitVec.toNat_and, BitVec.toNat_ofInt, h1, Nat.and_two_pow_sub_one_eq_mod]
  show IntKind.i64.wrap ((BitVec.ofInt 64 n &&& BitVec.ofInt 64 1).toNat : Nat) = n % 2
  rw [key, IntKind.wrap_i64]
  omega
theorem checkModeQ_c (mode : Int) (w : World) (hT : TabD w) : Calls Tryd.prog 49 #[.int .i64 mode] w (DC.RetB w (.int .i64 (if 0 ≤ mode ∧ mode ≤ 4 then 0 else 1))) := by
  have TO := Lib.hid (To_d (.agg #[.bool false, .slice none 0 0, .int .i64 0]) dz mode w (GV.zero w).dv hT)
  have e : TE dz mode = if 0 ≤ mode ∧ mode ≤ 4 then 0 else 1 := by unfold TE; rw [if_neg (by simp [dz])]
  rw [e] at TO
  clear e hT
  generalize (if 0 ≤ mode ∧ mode ≤ 4 then 0 else 1 : Int) = E at *
  generalize TX dz mode = x at *
  generalize TL dz mode = l at *
  go_enter Tryd.func49, Tryd.ntmps49
  go_wp2_with (go_at_call 32; (with_reducible refine (TO.out).mono ?_); rintro e w1 ⟨rfl, hb⟩)
  go_ret
  exact ⟨rfl, hb⟩
set_option maxRecDepth 100000 in
set_option maxHeartbeats 8000000 in
theorem byClassQ_c (x y : Int) (w : World) (hx : 0 ≤ x ∧ x ≤ 18446744073709551615) (hy : 0 ≤ y ∧ y ≤ 18446744073709551615) :
    Calls Tryd.prog 50 #[.int .u64 x, .int .u64 y] w fun e w' => e = .returned (.tuple #[.int .u64 (qc x y).1, .bool (qc x y).2]) ∧ w = w' := by
  have hs := Lib.hid (sp_bits hx hy)
  have CX : Hid (∀ W : World, Calls Tryd.prog 13 #[.int .u64 x] W fun e w' => e = .returned (.int .i64 (F.cls x)) ∧ W = w') := fun W => FloatC.Class_c x hx.1 hx.2 W
  have CY : Hid (∀ W : World, Calls Tryd.prog 13 #[.int .u64 y] W fun e w' => e = .returned (.int .i64 (F.cls y)) ∧ W = w') := fun W => FloatC.Class_c y hy.1 hy.2 W
  have a := F.cls_bd x
  have b := F.cls_bd y
  have s2 := sp2 x y
  unfold qc
  generalize sp x y = s at *
  obtain ⟨cx, hcx⟩ : ∃ c, F.cls x = c := ⟨_, rfl⟩
  obtain ⟨cy, hcy⟩ : ∃ c, F.cls y = c := ⟨_, rfl⟩
  rw [hcx] at a CX ⊢
  rw [hcy] at b CY ⊢
  have kx : cx = 1 ∨ cx = 2 ∨ cx = 3 ∨ cx = 4 ∨ cx = 5 := by omega
  have ky : cy = 1 ∨ cy = 2 ∨ cy = 3 ∨ cy = 4 ∨ cy = 5 := by omega
  clear hcx hcy a b hx hy
  obtain ⟨r, hr⟩ : ∃ r : Int × Bool, r = (if cx = 5 ∨ cy = 5 then (9221120237041090560, true) else if cx = cy ∧ (cx = 4 ∨ cx = 1) then (9221120237041090560, true) else if cx = 4 ∨ cy = 1 then (s + 9218868437227405312, true) else if cx = 1 ∨ cy = 4 then (s, true) else (0, false)) := ⟨_, rfl⟩
  rw [← hr]
  have HR := Lib.hid hr
  clear hr
  obtain ⟨r1, r2⟩ := r
  rcases kx with rfl | rfl | rfl | rfl | rfl <;> rcases ky with rfl | rfl | rfl | rfl | rfl
  all_goals (
    have h2 := HR.out
    clear HR
    first
      | (rw [if_pos (by decide)] at h2)
      | (rw [if_neg (by decide), if_pos (by decide)] at h2)
      | (rw [if_neg (by decide), if_neg (by decide), if_pos (by decide)] at h2)
      | (rw [if_neg (by decide), if_neg (by decide), if_neg (by decide), if_pos (by decide)] at h2)
      | (rw [if_neg (by decide), if_neg (by decide), if_neg (by decide), if_neg (by decide)] at h2)
    obtain ⟨rfl, rfl⟩ := Prod.mk.inj h2
    clear h2
    go_enter Tryd.func50, Tryd.ntmps50
    go_wp2_with (first
      | (go_at_call 13; (with_reducible refine (CX.out _).mono ?_); rintro e w1 ⟨rfl, rfl⟩)
      | (go_at_call 13; (with_reducible refine (CY.out _).mono ?_); rintro e w2 ⟨rfl, rfl⟩))
    go_ret2
    first
      | exact ⟨rfl, rfl⟩
      | (rw [hs.out]; exact ⟨rfl, rfl⟩)
      | (rw [hs.out]; rcases s2 with rfl | rfl <;> exact ⟨rfl, rfl⟩))
theorem pv_lt {w : World} {v : Value} {z : Int} (h : PV w v 0 z) : z < 4294967296 ^ 400 := h.small.2 rfl
set_option maxRecDepth 100000 in
set_option maxHeartbeats 4000000 in
theorem finishQ_c (b left : Bool) (A : Option Addr) (n c : Nat) (z x mode r : Int) (hf m : Bool) (w : World) {B : Nat} (hB : B = 400) (hm : 0 ≤ mode ∧ mode ≤ 4) (h0 : 0 < z) (hz : z < 2 ^ B) (hx : -9000 ≤ x ∧ x ≤ 9000) (t : Tow (sc z x) r hf m) (hv : PV w (.slice A n c) 0 z) (hT : TabD w) :
    Calls Tryd.prog 53 #[.bool b, .slice A n c, .int .i64 x, .bool left, .int .i64 mode] w (DC.RetB w (.tuple #[.int .u64 (rx b (ry b r hf (m || left) mode)), .bool (hf || (m || left)), .int .i64 0])) := by
  have fp := finish_p (b := b) (left := left) hB hm h0 hz hx t
  have M1 : Hid (Calls Tryd.prog 31 #[.bool b, .slice A n c, .int .i64 x] w (RetD w (fin (sgm b z) x))) := by
    have := Make_d b A n c 0 z x w hv hT
    unfold Mk at this
    rwa [if_neg (by decide), if_neg (by omega)] at this
  have PT : Hid (∀ (W : World) (u v : Value), DV W u (fin (sgm b z) x).d → DV W v (ones b left) → Below w.heap.size w W → Calls Tryd.prog 100 #[u, v, .int .i64 mode] W (DC.RetB W (.tuple #[.int .u64 (rx b (ry b r hf (m || left) mode)), .bool (hf || (m || left)), .int .i64 0]))) := fun W u v h1 h2 hW => by
    have := Part_d u v _ _ mode W h1 h2 (hT.below hW)
    rwa [fp.1, fp.2.1, fp.2.2] at this
  have OF : Hid (∀ W, Calls Tryd.prog 70 #[.int .u64 1] W (RetV W 1)) := fun W => Of_c 1 W (by omega)
  have M2 : Hid (∀ (W : World) (A : Option Addr) (n c : Nat), NV W (.slice A n c) 1 → Below w.heap.size w W → Calls Tryd.prog 31 #[.bool b, .slice A n c, .int .i64 0] W (RetD W ⟨0, ⟨0, sgm b 1, 0⟩⟩)) := fun W A n c hv hW => by
    have l1 : (1 : Int) < 4294967296 ^ 400 := (lt_390 hB (by have := two_lt' (a := 0) (b := B) (by omega); simpa using this)).2
    have hp := hv.pv (big3_bds l1 l1 (by omega) (by omega)).2.2.1
    have e1 : erz 1 = 0 := by unfold erz; rw [if_pos l1]
    rw [e1] at hp
    have := Make_d b A n c 0 1 0 W hp (hT.below hW)
    unfold Mk at this
    rw [if_neg (by decide), if_neg (by omega)] at this
    have e2 : fin (sgm b 1) 0 = ⟨0, ⟨0, sgm b 1, 0⟩⟩ := by
      have := fin_sg (b := b) (z := 1) (o := 1) (x := 0) (k := 0) (by decide) (by decide)
      rw [this, if_pos]
      · rfl
      · have := l1
        unfold inb
        generalize (4294967296 : Int) ^ 400 = c400 at *
        unfold sgm
        split <;> omega
    rwa [e2] at this
  clear fp t hv hT h0 hz hx
  generalize rx b (ry b r hf (m || left) mode) = X at *
  generalize (hf || (m || left)) = Lo at *
  generalize fin (sgm b z) x = rr at *
  obtain ⟨re, d⟩ := rr
  unfold ones at PT
  cases left
  · rw [if_neg (by decide)] at PT
    clear M2 OF
    go_enter Tryd.func53, Tryd.ntmps53
    go_wp2_with (first
      | (go_at_call 31; (with_reducible refine (M1.out).mono ?_); rintro e w3 ⟨b3, A3, n3, c3, x3, rfl, hv, hb⟩; have s := hb.alloc hb.size (.cells #[.bool b3, .slice A3 n3 c3, .int .i64 x3] 35); have X1 := BD.new hv.dv; have D := Lib.hid s; clear hv hb s; have s2 := al1 (w3.alloc (.cells #[.bool b3, .slice A3 n3 c3, .int .i64 x3] 35)) (.cells #[.bool false, .slice none 0 0, .int .i64 0] 35); have X2 := BD.new (GV.zero (w3.alloc (.cells #[.bool b3, .slice A3 n3 c3, .int .i64 x3] 35))).dv; have X1 := X1.below s2; have D := Lib.hid (D.out.trans (s2.mono D.out.size)); obtain ⟨a_0, a_1, a_2⟩ := X1.bx; obtain ⟨b_0, b_1, b_2⟩ := X2.bx)
      | (go_at_call 100; (with_reducible refine (PT.out _ _ _ X1.dv X2.dv D.out).mono ?_); rintro e w5 ⟨rfl, hb⟩; have D := Lib.hid (D.out.trans (hb.mono D.out.size)); clear hb))
    go_ret3
    exact ⟨rfl, D.out⟩
  · rw [if_pos rfl] at PT
    go_enter Tryd.func53, Tryd.ntmps53
    go_wp2_with (first
      | (go_at_call 31; (with_reducible refine (M1.out).mono ?_); rintro e w3 ⟨b3, A3, n3, c3, x3, rfl, hv, hb⟩; obtain ⟨N1, N2, NS, D0⟩ := new2 w3 35 35 #[.bool b3, .slice A3 n3 c3, .int .i64 x3] #[.bool false, .slice none 0 0, .int .i64 0] 0; rw [World.drewN_zero] at N1 N2 NS D0; have D := Lib.hid (hb.trans (D0.mono hb.size)); have G1 := hv.below D0; have SZ := Lib.hid hb.size; clear hv hb D0 NS)
      | (go_at_call 70; (with_reducible refine (OF.out _).mono ?_); rintro e w4 ⟨A4, n4, c4, rfl, ho, hb⟩; have N1 := N1.below hb N1.lt; have N2 := N2.below hb N2.lt; have G1 := G1.below hb; have D := Lib.hid (D.out.trans (hb.mono D.out.size)); clear hb)
      | (go_at_call 31; (with_reducible refine (M2.out _ _ _ _ ho D.out).mono ?_); rintro e w5 ⟨b5, A5, n5, c5, x5, rfl, hv5, hb⟩; have N1 := N1.below hb N1.lt; have N2 := N2.below hb N2.lt; have G1 := G1.below hb; have D := Lib.hid (D.out.trans (hb.mono D.out.size)); clear hb; have t0 := N2.at_ 0 rfl; have t1 := N2.at_ 1 rfl; have t2 := N2.at_ 2 rfl; have f0 := N2.frozen 0; have f1 := N2.frozen 1; have f2 := N2.frozen 2; have N3 := Blk3 N2 (.bool b5) (.slice A5 n5 c5) (.int .i64 x5); have N4 := ((N1.far (p := ⟨w3.heap.size + 1, 0, none⟩) (by simp) (.bool b5)).far (p := ⟨w3.heap.size + 1, 1, none⟩) (by simp) (.slice A5 n5 c5)).far (p := ⟨w3.heap.size + 1, 2, none⟩) (by simp) (.int .i64 x5); have G3 := G1.set3 N2 (.bool b5) (.slice A5 n5 c5) (.int .i64 x5) (by intro z h; cases h) (by intro z h; cases h); have G4 := hv5.set3 N2 (.bool b5) (.slice A5 n5 c5) (.int .i64 x5) (by intro z h; cases h) (by intro z h; cases h); have D3 := Lib.hid (below3 D.out (B := w3.heap.size + 1) (by have := SZ.out; omega) (.bool b5) (.slice A5 n5 c5) (.int .i64 x5)); have a0 := N4.at_ 0 rfl; have a1 := N4.at_ 1 rfl; have a2 := N4.at_ 2 rfl; have b0 := N3.at_ 0 rfl; have b1 := N3.at_ 1 rfl; have b2 := N3.at_ 2 rfl)
      | (go_at_call 100; (with_reducible refine (PT.out _ _ _ G3.dv G4.dv D3.out).mono ?_); rintro e w6 ⟨rfl, hb⟩; have D := Lib.hid (D3.out.trans (hb.mono D3.out.size)); clear hb))
    go_ret3
    exact ⟨rfl, D.out⟩
end JC
end Go.Proofs.YtpmjeipdldnnbaaDoor

/-
  Package quot: Div, Sqrt.
-/
namespace Go.Proofs.YtpmjeipdldnnbaaDoor
set_option linter.unusedVariables false
set_option linter.unusedSimpArgs false
open Go.RowKit
set_option linter.unusedVariables false
set_option linter.unusedSimpArgs false
namespace JC
open L NC NK DC RC SC PC
theorem gv_of {w : World} {b s : Bool} {A : Option Addr} {n c : Nat} {x o X : Int} (h : GV w b A n c x ⟨0, sgm s o, X⟩) (h0 : 0 < o) : s = b ∧ X = x ∧ PV w (.slice A n c) 0 o := by
  have p := h.pv
  have hn : (((Dy.mk 0 (sgm s o) X).m).natAbs : Int) = o := by show ((sgm s o).natAbs : Int) = o; unfold sgm; split <;> omega
  rw [hn] at p
  refine ⟨?_, h.2.2.1.symm, p⟩
  rw [h.2.1]
  show s = decide (sgm s o < 0)
  unfold sgm
  cases s
  · simp; omega
  · simp; omega
theorem pv0 {w : World} {v : Value} {z : Int} {B : Nat} (hB : B = 400) (h : NV w v z) (h0 : 0 ≤ z) (hz : z < 2 ^ B) : PV w v 0 z := by
  have l1 := (lt_390 hB hz).2
  have hp := h.pv (big3_bds l1 l1 h0 h0).2.2.1
  have e1 : erz z = 0 := by unfold erz; rw [if_pos l1]
  rwa [e1] at hp
theorem pow_le400 {a B : Nat} (hB : B = 400) (h : a ≤ 399) : (2 : Int) ^ a < 2 ^ B := two_lt' (by omega)
/-- what the division of mantissas tells -/
theorem div_parts {x y mode : Int} (hm : 0 ≤ mode ∧ mode ≤ 4) (hx : 0 ≤ x ∧ x ≤ 18446744073709551615) (hy : 0 ≤ y ∧ y ≤ 18446744073709551615) (h : (qc x y).2 = false) :
    ∃ (o1 X1 o2 X2 L q rm r : Int) (hf m : Bool), OfD x = ⟨0, 0, sgm (F.sgn x) o1, X1⟩ ∧ OfD y = ⟨0, 0, sgm (F.sgn y) o2, X2⟩ ∧ 0 < o1 ∧ 0 < o2 ∧ -1074 ≤ X1 ∧ X1 ≤ 1024 ∧ -1074 ≤ X2 ∧ X2 ≤ 1024 ∧ L = o1 * 2 ^ 128 ∧ q = L / o2 ∧ rm = L % o2 ∧ 0 ≤ L ∧ L < 2 ^ 190 ∧ 0 < q ∧ q < 2 ^ 190 ∧
      Tow (sc q (X1 - X2 - 128)) r hf m ∧ DT x y mode = (rx (F.sgn x != F.sgn y) (ry (F.sgn x != F.sgn y) r hf (m || decide (rm ≠ 0)) mode), hf || (m || decide (rm ≠ 0)), 0) := by
  obtain ⟨fx, fy, vx, vy⟩ := (qc_no hx hy).1 h
  obtain ⟨o1, X1, e1, a1, a2, -, a3, a4, a5⟩ := of_parts fx vx
  obtain ⟨o2, X2, e2, b1, b2, -, b3, b4, b5⟩ := of_parts fy vy
  obtain ⟨L, hL⟩ : ∃ L, L = o1 * 2 ^ 128 := ⟨_, rfl⟩
  obtain ⟨q, hq⟩ : ∃ q, q = L / o2 := ⟨_, rfl⟩
  obtain ⟨rm, hr⟩ : ∃ rm, rm = L % o2 := ⟨_, rfl⟩
  have p128 : (2 : Int) ^ 128 = 340282366920938463463374607431768211456 := by decide
  have p190 : (2 : Int) ^ 190 = 1569275433846670190958947355801916604025588861116008628224 := by decide
  have hdm := Int.mul_ediv_add_emod L o2
  have hr0 := Int.emod_nonneg L (Int.ne_of_gt b1)
  have hr1 := Int.emod_lt_of_pos L b1
  rw [← hq, ← hr, Int.mul_comm] at hdm
  rw [← hr] at hr0 hr1
  rw [p128] at hL
  have q1 : 37778931862957161709568 ≤ q := by
    rw [hq, Int.le_ediv_iff_mul_le b1]
    have := Int.mul_le_mul_of_nonneg_left (show o2 ≤ 9007199254740992 by omega) (show (0 : Int) ≤ 37778931862957161709568 by omega)
    omega
  have q2 : q ≤ L := by
    have := Int.mul_le_mul_of_nonneg_left (show 1 ≤ o2 by omega) (show 0 ≤ q by omega)
    omega
  obtain ⟨B, hB⟩ : ∃ B : Nat, B = 400 := ⟨_, rfl⟩
  have hqB : q < 2 ^ B := by
    have := pow_le400 hB (show 190 ≤ 399 by omega)
    rw [p190] at this
    omega
  obtain ⟨r, hf, m, t⟩ := tow_ex (z := q) (x := X1 - X2 - 128) (by omega) (lt_390 hB hqB).2 (by omega)
  refine ⟨o1, X1, o2, X2, L, q, rm, r, hf, m, e1, e2, a1, b1, a3, a4, b3, b4, by rw [p128]; exact hL, hq, hr, by omega, by rw [p190]; omega, by omega, by rw [p190]; omega, t, ?_⟩
  rw [DT_fi hm h]
  have hD : 0 < ab y := ab_pos fy vy
  have eN : ab x * 2 ^ KN = sc L (X1 - 128) * 2 ^ KN := by
    rw [a5, hL, ← p128]
    have := sc_shift o1 (X1 - 128) 128 (by omega)
    rw [this]
    congr 2; omega
  have tg := div_tog (left := decide (rm ≠ 0)) (N := ab x * 2 ^ KN) (D := ab y) (o := o2) (X := X2) (L := L) (f := X1 - 128) (z := q) (e := X1 - X2 - 128) hB (by omega) (by omega) (by omega) b5 eN b1 (by omega) hqB (.inl (by omega)) (by omega) (by rw [Int.add_mul]; omega) (by apply decide_eq_decide.2; omega) t
  rw [RT_of (qcut hD) tg]
set_option maxRecDepth 100000 in
set_option maxHeartbeats 8000000 in
theorem Div_c (x y mode : Int) (w : World) (hx : 0 ≤ x ∧ x ≤ 18446744073709551615) (hy : 0 ≤ y ∧ y ≤ 18446744073709551615) (hT : TabD w) :
    Calls Tryd.prog 11 #[.int .u64 x, .int .u64 y, .int .i64 mode] w (DC.RetB w (ATv (DT x y mode))) := by
  have CM := Lib.hid (checkModeQ_c mode w hT)
  have BC : Hid (∀ W : World, Calls Tryd.prog 50 #[.int .u64 x, .int .u64 y] W fun e w' => e = .returned (.tuple #[.int .u64 (qc x y).1, .bool (qc x y).2]) ∧ W = w') := fun W => byClassQ_c x y W hx hy
  unfold ATv
  by_cases hm : 0 ≤ mode ∧ mode ≤ 4
  · rw [if_pos hm] at CM
    cases h : (qc x y).2
    · obtain ⟨B, hB⟩ : ∃ B : Nat, B = 400 := ⟨_, rfl⟩
      obtain ⟨o1, X1, o2, X2, L, q, rm, r, hf, m, e1, e2, a1, b1, a3, a4, b3, b4, hL, hq, hr, l0, l1, q0, q1, t, hD⟩ := div_parts hm hx hy h
      have O1 : Hid (∀ W, Below w.heap.size w W → Calls Tryd.prog 28 #[.int .u64 x] W (RetD W ⟨0, 0, sgm (F.sgn x) o1, X1⟩)) := fun W hW => by rw [← e1]; exact Of_d x hx.1 hx.2 W (hT.below hW)
      have O2 : Hid (∀ W, Below w.heap.size w W → Calls Tryd.prog 28 #[.int .u64 y] W (RetD W ⟨0, 0, sgm (F.sgn y) o2, X2⟩)) := fun W hW => by rw [← e2]; exact Of_d y hy.1 hy.2 W (hT.below hW)
      have g1 : Hid (∀ (W : World) (b : Bool) (A : Option Addr) (n c : Nat) (x' : Int), GV W b A n c x' ⟨0, sgm (F.sgn x) o1, X1⟩ → F.sgn x = b ∧ X1 = x' ∧ PV W (.slice A n c) 0 o1) := fun W b A n c x' g => gv_of g a1
      have g2 : Hid (∀ (W : World) (b : Bool) (A : Option Addr) (n c : Nat) (x' : Int), GV W b A n c x' ⟨0, sgm (F.sgn y) o2, X2⟩ → F.sgn y = b ∧ X2 = x' ∧ PV W (.slice A n c) 0 o2) := fun W b A n c x' g => gv_of g b1
      have SH : Hid (∀ (W : World) (v : Value), PV W v 0 o1 → Calls Tryd.prog 51 #[v, .int .i64 128] W (RetSh W 0 L false)) := fun W v hv => by rw [hL]; exact sh_up hv 128 (by omega)
      have lB : L < 2 ^ B := Int.lt_trans l1 (pow_le400 hB (by omega))
      have qB : q < 2 ^ B := Int.lt_trans q1 (pow_le400 hB (by omega))
      have PL : Hid (∀ (W : World) (v : Value), NV W v L → PV W v 0 L) := fun W v h => pv0 hB h l0 lB
      have PQ : Hid (∀ (W : World) (v : Value), NV W v q → PV W v 0 q) := fun W v h => pv0 hB h (by omega) qB
      have rB : 0 ≤ rm ∧ rm < 2 ^ B := by
        have x1 := Int.emod_nonneg L (Int.ne_of_gt b1)
        have x2 := Int.emod_lt_of_pos L b1
        have x3 : o2 ≤ 9007199254740992 := by
          obtain ⟨o', X', e', -, k, -⟩ := of_parts ((qc_no hx hy).1 h).2.1 ((qc_no hx hy).1 h).2.2.2
          rw [e2] at e'
          have e'' := congrArg (fun r : Re => r.d.m) e'
          have : sgm (F.sgn y) o2 = sgm (F.sgn y) o' := e''
          unfold sgm at this
          split at this <;> omega
        have := pow_le400 hB (show 60 ≤ 399 by omega)
        rw [show (2 : Int) ^ 60 = 1152921504606846976 by decide] at this
        omega
      have ZR : Hid (∀ (W : World) (A : Option Addr) (n c : Nat), NV W (.slice A n c) rm → (n = 0 ↔ rm = 0)) := fun W A n c h => pv_zero (pv0 hB h rB.1 rB.2)
      have DI : Hid (∀ (W : World) (u v : Value), PV W u 0 L → PV W v 0 o2 → Calls Tryd.prog 52 #[u, v] W (RetDP W 0 q rm)) := fun W u v h1 h2 => by
        have := Div_p h1 h2
        have e0 : ed 0 0 o2 = 0 := by unfold ed ee; rw [if_neg (by simp), if_neg (by omega)]
        rw [e0, if_pos rfl, if_pos rfl, ← hq, ← hr] at this
        exact this
      have FI : Hid (∀ (W : World) (A : Option Addr) (n c : Nat), PV W (.slice A n c) 0 q → Below w.heap.size w W → Calls Tryd.prog 53 #[.bool (!(F.sgn x == F.sgn y)), .slice A n c, .int .i64 (X1 - X2 - 128), .bool (decide (rm ≠ 0)), .int .i64 mode] W (DC.RetB W (.tuple #[.int .u64 (DT x y mode).1, .bool (DT x y mode).2.1, .int .i64 (DT x y mode).2.2]))) := fun W A n c hv hW => by
        rw [hD]
        exact finishQ_c _ _ A n c q _ mode r hf m W hB hm q0 qB (by omega) t hv (hT.below hW)
      rw [h] at BC
      generalize DT x y mode = dt at *
      obtain ⟨d1, d2, d3⟩ := dt
      dsimp only at FI ⊢
      generalize (qc x y).1 = v1 at *
      generalize F.sgn x = s1 at *
      generalize F.sgn y = s2 at *
      clear hT hx hy hm h e1 e2 t hD hq hr hL lB qB rB l0 l1 q0 q1 a1 b1
      rcases Classical.em (rm = 0) with h0 | h0
      · have e0 : decide (rm ≠ 0) = false := by simp [h0]
        rw [e0] at FI
        have ZR : Hid (∀ (W : World) (A : Option Addr) (n c : Nat), NV W (.slice A n c) rm → 0 = n) := fun W A n c h => ((ZR.out W A n c h).2 h0).symm
        clear e0 h0
        go_enter Tryd.func11, Tryd.ntmps11
        go_wp2_with (first
          | (go_at_call 49; (with_reducible refine (CM.out).mono ?_); rintro e w1 ⟨rfl, hb⟩; have D := Lib.hid hb; clear hb)
          | (go_at_call 50; (with_reducible refine (BC.out _).mono ?_); rintro e w2 ⟨rfl, rfl⟩)
          | (go_at_call 28; (with_reducible refine (O1.out _ D.out).mono ?_); rintro e w3 ⟨b3, A3, n3, c3, x3, rfl, hv, hb⟩; obtain ⟨rfl, rfl, p1⟩ := g1.out _ _ _ _ _ _ hv; have s := hb.alloc hb.size (.cells #[.bool s1, .slice A3 n3 c3, .int .i64 X1] 35); have N1 := Blk.new w3 35 #[.bool s1, .slice A3 n3 c3, .int .i64 X1]; have p1 := p1.below (al1 w3 (.cells #[.bool s1, .slice A3 n3 c3, .int .i64 X1] 35)); have D := Lib.hid (D.out.trans (s.mono D.out.size)); clear hv hb s)
          | (go_at_call 28; (with_reducible refine (O2.out _ D.out).mono ?_); rintro e w4 ⟨b4, A4, n4, c4, x4, rfl, hv, hb⟩; obtain ⟨rfl, rfl, p2⟩ := g2.out _ _ _ _ _ _ hv; have s := hb.alloc hb.size (.cells #[.bool s2, .slice A4 n4 c4, .int .i64 X2] 35); have N1 := N1.below s N1.lt; have p1 := p1.below s; have N2 := Blk.new w4 35 #[.bool s2, .slice A4 n4 c4, .int .i64 X2]; have p2 := p2.below (al1 w4 (.cells #[.bool s2, .slice A4 n4 c4, .int .i64 X2] 35)); have D := Lib.hid (D.out.trans (s.mono D.out.size)); clear hv hb s; have a0 := N1.at_ 0 rfl; have a1 := N1.at_ 1 rfl; have a2 := N1.at_ 2 rfl; have b0 := N2.at_ 0 rfl; have b1 := N2.at_ 1 rfl; have b2 := N2.at_ 2 rfl)
          | (go_at_call 51; (with_reducible refine (SH.out _ _ p1).mono ?_); rintro e w5 ⟨A5, n5, c5, rfl, nl, hb⟩; have pl := PL.out _ _ nl; have N1 := N1.below hb N1.lt; have N2 := N2.below hb N2.lt; have p2 := p2.below hb; have D := Lib.hid (D.out.trans (hb.mono D.out.size)); clear hb; have a0 := N1.at_ 0 rfl; have a1 := N1.at_ 1 rfl; have a2 := N1.at_ 2 rfl; have b0 := N2.at_ 0 rfl; have b1 := N2.at_ 1 rfl; have b2 := N2.at_ 2 rfl)
          | (go_at_call 52; (with_reducible refine (DI.out _ _ _ pl p2).mono ?_); rintro e w6 ⟨A6, n6, c6, A7, n7, c7, rfl, -, -, nq, nr, hb⟩; have pq := PQ.out _ _ nq; obtain rfl := ZR.out _ _ _ _ nr; have N1 := N1.below hb N1.lt; have N2 := N2.below hb N2.lt; have D := Lib.hid (D.out.trans (hb.mono D.out.size)); clear hb; have a0 := N1.at_ 0 rfl; have a1 := N1.at_ 1 rfl; have a2 := N1.at_ 2 rfl; have b0 := N2.at_ 0 rfl; have b1 := N2.at_ 1 rfl; have b2 := N2.at_ 2 rfl)
          | (go_at_call 53; (with_reducible refine (FI.out _ _ _ _ pq D.out).mono ?_); rintro e w7 ⟨rfl, hb⟩; have D := Lib.hid (D.out.trans (hb.mono D.out.size)); clear hb))
        go_ret3
        exact ⟨rfl, D.out⟩
      · have e0 : decide (rm ≠ 0) = true := by simp [h0]
        rw [e0] at FI
        have ZR : Hid (∀ (W : World) (A : Option Addr) (n c : Nat), NV W (.slice A n c) rm → decide (0 < n) = true) := fun W A n c h => by
          have := (ZR.out W A n c h)
          have : n ≠ 0 := fun k => h0 (this.1 k)
          exact decide_eq_true (by omega)
        clear e0 h0
        go_enter Tryd.func11, Tryd.ntmps11
        go_wp2_with (first
          | (go_at_call 49; (with_reducible refine (CM.out).mono ?_); rintro e w1 ⟨rfl, hb⟩; have D := Lib.hid hb; clear hb)
          | (go_at_call 50; (with_reducible refine (BC.out _).mono ?_); rintro e w2 ⟨rfl, rfl⟩)
          | (go_at_call 28; (with_reducible refine (O1.out _ D.out).mono ?_); rintro e w3 ⟨b3, A3, n3, c3, x3, rfl, hv, hb⟩; obtain ⟨rfl, rfl, p1⟩ := g1.out _ _ _ _ _ _ hv; have s := hb.alloc hb.size (.cells #[.bool s1, .slice A3 n3 c3, .int .i64 X1] 35); have N1 := Blk.new w3 35 #[.bool s1, .slice A3 n3 c3, .int .i64 X1]; have p1 := p1.below (al1 w3 (.cells #[.bool s1, .slice A3 n3 c3, .int .i64 X1] 35)); have D := Lib.hid (D.out.trans (s.mono D.out.size)); clear hv hb s)
          | (go_at_call 28; (with_reducible refine (O2.out _ D.out).mono ?_); rintro e w4 ⟨b4, A4, n4, c4, x4, rfl, hv, hb⟩; obtain ⟨rfl, rfl, p2⟩ := g2.out _ _ _ _ _ _ hv; have s := hb.alloc hb.size (.cells #[.bool s2, .slice A4 n4 c4, .int .i64 X2] 35); have N1 := N1.below s N1.lt; have p1 := p1.below s; have N2 := Blk.new w4 35 #[.bool s2, .slice A4 n4 c4, .int .i64 X2]; have p2 := p2.below (al1 w4 (.cells #[.bool s2, .slice A4 n4 c4, .int .i64 X2] 35)); have D := Lib.hid (D.out.trans (s.mono D.out.size)); clear hv hb s; have a0 := N1.at_ 0 rfl; have a1 := N1.at_ 1 rfl; have a2 := N1.at_ 2 rfl; have b0 := N2.at_ 0 rfl; have b1 := N2.at_ 1 rfl; have b2 := N2.at_ 2 rfl)
          | (go_at_call 51; (with_reducible refine (SH.out _ _ p1).mono ?_); rintro e w5 ⟨A5, n5, c5, rfl, nl, hb⟩; have pl := PL.out _ _ nl; have N1 := N1.below hb N1.lt; have N2 := N2.below hb N2.lt; have p2 := p2.below hb; have D := Lib.hid (D.out.trans (hb.mono D.out.size)); clear hb; have a0 := N1.at_ 0 rfl; have a1 := N1.at_ 1 rfl; have a2 := N1.at_ 2 rfl; have b0 := N2.at_ 0 rfl; have b1 := N2.at_ 1 rfl; have b2 := N2.at_ 2 rfl)
          | (go_at_call 52; (with_reducible refine (DI.out _ _ _ pl p2).mono ?_); rintro e w6 ⟨A6, n6, c6, A7, n7, c7, rfl, -, -, nq, nr, hb⟩; have pq := PQ.out _ _ nq; have tn := ZR.out _ _ _ _ nr; have N1 := N1.below hb N1.lt; have N2 := N2.below hb N2.lt; have D := Lib.hid (D.out.trans (hb.mono D.out.size)); clear hb; have a0 := N1.at_ 0 rfl; have a1 := N1.at_ 1 rfl; have a2 := N1.at_ 2 rfl; have b0 := N2.at_ 0 rfl; have b1 := N2.at_ 1 rfl; have b2 := N2.at_ 2 rfl)
          | (go_at_call 53; (try rw [tn]); (with_reducible refine (FI.out _ _ _ _ pq D.out).mono ?_); rintro e w7 ⟨rfl, hb⟩; have D := Lib.hid (D.out.trans (hb.mono D.out.size)); clear hb))
        go_ret3
        exact ⟨rfl, D.out⟩
    · rw [DT_qc hm h]
      rw [h] at BC
      generalize (qc x y).1 = v1 at *
      clear hT hx hy hm h
      go_enter Tryd.func11, Tryd.ntmps11
      go_wp2_with (first
        | (go_at_call 49; (with_reducible refine (CM.out).mono ?_); rintro e w1 ⟨rfl, hb⟩; have D := Lib.hid hb; clear hb)
        | (go_at_call 50; (with_reducible refine (BC.out _).mono ?_); rintro e w2 ⟨rfl, rfl⟩))
      go_ret3
      exact ⟨rfl, D.out⟩
  · rw [if_neg hm] at CM
    rw [DT_no hm]
    clear hT hx hy hm BC
    go_enter Tryd.func11, Tryd.ntmps11
    go_wp2_with (first
      | (go_at_call 49; (with_reducible refine (CM.out).mono ?_); rintro e w1 ⟨rfl, hb⟩; have D := Lib.hid hb; clear hb))
    go_ret3
    exact ⟨rfl, D.out⟩
end JC
end Go.Proofs.YtpmjeipdldnnbaaDoor

/-
  Package quot: isOdd, inUnits, nearest; what the remainder is.
-/
namespace Go.Proofs.YtpmjeipdldnnbaaDoor
set_option linter.unusedVariables false
set_option linter.unusedSimpArgs false
open Go.RowKit
set_option linter.unusedVariables false
set_option linter.unusedSimpArgs false
namespace JC
open L NC NK DC RC SC PC
open Z (cmpv)
theorem bdn (W : World) (k : Nat) : Below W.heap.size W (W.drewN k) := by
  have h := Below.refl W.heap.size W
  exact ⟨h.os, h.tape, h.output, h.size, h.block⟩
theorem isOddQ_c (A : Option Addr) (n c : Nat) (z : Int) (w : World) (hv : NV w (.slice A n c) z) : Calls Tryd.prog 73 #[.slice A n c] w (fun e w' => e = .returned (.bool (decide (z % 2 = 1))) ∧ w = w') := by
  obtain ⟨l, hs, Ll, -, hz⟩ := hv
  obtain ⟨en, hc⟩ := hs.len_
  rw [← hz, lv_odd]
  by_cases h0 : l = []
  · subst h0
    obtain rfl : n = 0 := en
    clear hs Ll hz
    go_enter Tryd.func73, Tryd.ntmps73
    go_wp2
    go_ret
    exact ⟨ret_bool (by simp), rfl⟩
  · have hn0 : 0 < n := by rw [en]; exact List.length_pos_iff.2 h0
    obtain ⟨ad, c', e, hc', hb', hcell⟩ := hs.at_ 0 (by rw [← en]; omega)
    injection e with e1 e2 e3
    subst e1
    clear e2 e3 hc' c'
    have bz := Ll.at_ 0
    generalize l.getD 0 0 = y at *
    rw [show ad.add 0 = ad from rfl] at hcell
    have h1 : (n : Int) > 0 := by omega
    have i1 : IntKind.u32.wrap (y % 2) = y % 2 := IntWalk.u32_in _ (by omega)
    have e5 : (y % 2 == 1) = decide (y % 2 = 1) := rfl
    clear hs h0 Ll hz en
    go_enter Tryd.func73, Tryd.ntmps73
    go_wp2
    go_ret
    exact ⟨ret_bool (by first | rfl | simp), rfl⟩
theorem inUnits_c (b : Bool) (A : Option Addr) (n c : Nat) (X y o : Int) (k : Nat) (w : World) (hv : PV w (.slice A n c) 0 o) (hX : -2000 ≤ X ∧ X ≤ 2000) (hy : -2000 ≤ y ∧ y ≤ 2000) (hk : X - y = (k : Int)) :
    Calls Tryd.prog 30 #[.agg #[.bool b, .slice A n c, .int .i64 X], .int .i64 y] w (RetV w (o * 2 ^ k)) := by
  have D0 := al1 w (.cells #[.bool b, .slice A n c, .int .i64 X] 35)
  have N1 := Blk.new w 35 #[.bool b, .slice A n c, .int .i64 X]
  have SH : Hid (Calls Tryd.prog 51 #[.slice A n c, .int .i64 (X - y)] (w.alloc (.cells #[.bool b, .slice A n c, .int .i64 X] 35)) (RetSh (w.alloc (.cells #[.bool b, .slice A n c, .int .i64 X] 35)) 0 (o * 2 ^ k) false)) := by
    rw [hk]
    exact sh_up (hv.below D0) k (by omega)
  have a0 := N1.at_ 0 rfl
  have a1 := N1.at_ 1 rfl
  have a2 := N1.at_ 2 rfl
  have D0 := Lib.hid D0
  generalize o * 2 ^ k = L at *
  clear hk hv
  go_enter Tryd.func30, Tryd.ntmps30
  go_wp2_with (first
    | (go_at_call 51; (with_reducible refine (SH.out).mono ?_); rintro e w5 ⟨A5, n5, c5, rfl, nl, hb⟩))
  go_ret
  exact ⟨_, _, _, rfl, nl, D0.out.trans (hb.mono D0.out.size)⟩
/-- is the nearest multiple above; how far it is -/
def ov (a b : Int) : Bool := decide (b - a % b < a % b ∨ (a % b = b - a % b ∧ a / b % 2 = 1))
def rs (a b : Int) : Int := if ov a b = true then b - a % b else a % b
theorem ov_scale {a b E : Int} (hE : 0 < E) : ov (a * E) (b * E) = ov a b ∧ rs (a * E) (b * E) = rs a b * E := by
  have e1 : a * E % (b * E) = a % b * E := by
    rw [Int.mul_comm a, Int.mul_comm b, Int.mul_emod_mul_of_pos _ _ hE, Int.mul_comm]
  have e2 : a * E / (b * E) = a / b := by rw [Int.mul_comm a, Int.mul_comm b, Int.mul_ediv_mul_of_pos _ _ hE]
  have e3 : ov (a * E) (b * E) = ov a b := by
    unfold ov
    rw [e1, e2, ← Int.sub_mul]
    apply decide_eq_decide.2
    rw [Int.mul_lt_mul_right hE]
    constructor
    · rintro (h | ⟨h, k⟩)
      · exact .inl h
      · exact .inr ⟨Int.eq_of_mul_eq_mul_right (Int.ne_of_gt hE) h, k⟩
    · rintro (h | ⟨h, k⟩)
      · exact .inl h
      · exact .inr ⟨by rw [← h], k⟩
  refine ⟨e3, ?_⟩
  unfold rs
  rw [e3, e1, ← Int.sub_mul]
  split <;> rfl
theorem rs_bd {a b : Int} (ha : 0 ≤ a) (hb : 0 < b) : 0 ≤ rs a b ∧ rs a b < b ∧ rs a b ≤ a ∧ 2 * rs a b ≤ b := by
  have h0 := Int.emod_nonneg a (Int.ne_of_gt hb)
  have h1 := Int.emod_lt_of_pos a hb
  have h2 := Int.mul_ediv_add_emod a b
  have h3 := Int.ediv_nonneg ha (Int.le_of_lt hb)
  have h4 := Int.mul_nonneg (Int.le_of_lt hb) h3
  unfold rs
  by_cases h : ov a b = true
  · rw [if_pos h]
    unfold ov at h
    rw [decide_eq_true_iff] at h
    omega
  · rw [if_neg h]
    unfold ov at h
    rw [decide_eq_true_iff] at h
    omega
set_option maxRecDepth 100000 in
set_option maxHeartbeats 4000000 in
theorem nearest_c (A1 A2 : Option Addr) (n1 c1 n2 c2 : Nat) (a b : Int) (w : World) (h1 : PV w (.slice A1 n1 c1) 0 a) (h2 : PV w (.slice A2 n2 c2) 0 b) (hb : 0 < b) :
    Calls Tryd.prog 29 #[.slice A1 n1 c1, .slice A2 n2 c2] w fun e w' => ∃ A n c, e = .returned (.tuple #[.slice A n c, .bool (ov a b)]) ∧ NV w' (.slice A n c) (rs a b) ∧ Below w.heap.size w w' := by
  have ba := h1.small
  have bb := h2.small
  have la := ba.2 rfl
  have lb := bb.2 rfl
  have q0 := Int.ediv_nonneg ba.1 (Int.le_of_lt hb)
  have q1 := Int.ediv_le_self (b := b) ba.1
  have r0 := Int.emod_nonneg a (Int.ne_of_gt hb)
  have r1 := Int.emod_lt_of_pos a hb
  have P2 : Hid (∀ W, Below w.heap.size w W → PV W (.slice A2 n2 c2) 0 b) := fun W hW => h2.below hW
  have e0 : ed 0 0 b = 0 := by unfold ed ee; rw [if_neg (by simp), if_neg (by omega)]
  have es0 : es 0 0 b (a % b) = 0 := by unfold es ee; rw [if_pos (by simp), if_neg (by omega)]
  have ez : erz (a % b) = 0 := by unfold erz; rw [if_pos (Int.lt_trans r1 lb)]
  have ez2 : erz (b - a % b) = 0 := by unfold erz; rw [if_pos (Int.lt_of_le_of_lt (by omega) lb)]
  have DI : Hid (Calls Tryd.prog 52 #[.slice A1 n1 c1, .slice A2 n2 c2] w (RetDP w 0 (a / b) (a % b))) := by
    have := Div_p h1 h2
    rw [e0, if_pos rfl, if_pos rfl] at this
    exact this
  have SU : Hid (∀ (W : World) (u v : Value), PV W u 0 b → PV W v (erz (a % b)) (a % b) → Calls Tryd.prog 71 #[u, v] W (RetP W 0 (b - a % b))) := fun W u v k1 k2 => by
    rw [ez] at k2
    have := Sub_p k1 k2
    rw [es0, if_pos rfl] at this
    exact this
  have CM : Hid (∀ (W : World) (u v : Value), PV W u (erz (a % b)) (a % b) → PV W v (erz (b - a % b)) (b - a % b) → Calls Tryd.prog 72 #[u, v] W (NC.RetQ W (.tuple #[.int .i64 (cmpv (a % b) (b - a % b)), .int .i64 0]))) := fun W u v k1 k2 => by
    rw [ez] at k1
    rw [ez2] at k2
    have := Cmp_p k1 k2
    rw [show ee 0 0 = 0 from rfl, if_pos rfl] at this
    exact this
  have OD : Hid (∀ (W : World) (A : Option Addr) (n c : Nat), NV W (.slice A n c) (a / b) → Calls Tryd.prog 73 #[.slice A n c] W (fun e w' => e = .returned (.bool (decide (a / b % 2 = 1))) ∧ W = w')) := fun W A n c h => isOddQ_c A n c _ W h
  have cv : (ov a b = false ∧ rs a b = a % b ∧ cmpv (a % b) (b - a % b) = -1) ∨ (ov a b = true ∧ rs a b = b - a % b ∧ cmpv (a % b) (b - a % b) = 1) ∨ (ov a b = false ∧ rs a b = a % b ∧ cmpv (a % b) (b - a % b) = 0 ∧ decide (a / b % 2 = 1) = false) ∨ (ov a b = true ∧ rs a b = b - a % b ∧ cmpv (a % b) (b - a % b) = 0 ∧ decide (a / b % 2 = 1) = true) := by
    have e1 : ov a b = true → rs a b = b - a % b := fun h => by unfold rs; rw [if_pos h]
    have e2 : ov a b = false → rs a b = a % b := fun h => by unfold rs; rw [if_neg (by simp [h])]
    rcases Int.lt_trichotomy (a % b) (b - a % b) with h | h | h
    · have : ov a b = false := by unfold ov; rw [decide_eq_false_iff_not]; omega
      exact .inl ⟨this, e2 this, Z.cmpv_lt h⟩
    · by_cases k : a / b % 2 = 1
      · have : ov a b = true := by unfold ov; rw [decide_eq_true_iff]; omega
        exact .inr (.inr (.inr ⟨this, e1 this, Z.cmpv_eq h, decide_eq_true k⟩))
      · have : ov a b = false := by unfold ov; rw [decide_eq_false_iff_not]; omega
        exact .inr (.inr (.inl ⟨this, e2 this, Z.cmpv_eq h, decide_eq_false k⟩))
    · have : ov a b = true := by unfold ov; rw [decide_eq_true_iff]; omega
      exact .inr (.inl ⟨this, e1 this, Z.cmpv_gt h⟩)
  generalize decide (a / b % 2 = 1) = od at *
  generalize cmpv (a % b) (b - a % b) = cc at *
  generalize ov a b = o at *
  generalize rs a b = r at *
  clear h1 h2 hb ba bb la lb q0 q1 r0 r1 e0 es0 ez ez2
  generalize a / b = q at *
  generalize a % b = z at *
  rcases cv with ⟨rfl, rfl, rfl⟩ | ⟨rfl, rfl, rfl⟩ | ⟨rfl, rfl, rfl, rfl⟩ | ⟨rfl, rfl, rfl, rfl⟩
  all_goals (
    go_enter Tryd.func29, Tryd.ntmps29
    go_wp2_with (first
      | (go_at_call 52; (with_reducible refine (DI.out).mono ?_); rintro e w1 ⟨A3, n3, c3, A4, n4, c4, rfl, -, pr, nq, nr, hb⟩; have p2 := P2.out _ hb; have D := Lib.hid hb; clear hb)
      | (go_at_call 71; (with_reducible refine (SU.out _ _ _ p2 pr).mono ?_); rintro e w2 ⟨A5, n5, c5, rfl, ps, ns, hb⟩; have pr := pr.below hb; have nr := nr.below hb; have nq := nq.below hb; have D := Lib.hid (D.out.trans (hb.mono D.out.size)); clear hb)
      | (go_at_call 72; (with_reducible refine (CM.out _ _ _ pr ps).mono ?_); rintro e w3 ⟨rfl, k3, rfl⟩; have hb := bdn w2 k3; have nr := nr.below hb; have nq := nq.below hb; have ns := ns.below hb; have D := Lib.hid (D.out.trans (hb.mono D.out.size)); clear hb)
      | (go_at_call 73; (with_reducible refine (OD.out _ _ _ _ nq).mono ?_); rintro e w4 ⟨rfl, rfl⟩))
    go_ret2
    first
      | exact ⟨_, _, _, rfl, nr, D.out⟩
      | exact ⟨_, _, _, rfl, ns, D.out⟩)
end JC
end Go.Proofs.YtpmjeipdldnnbaaDoor

