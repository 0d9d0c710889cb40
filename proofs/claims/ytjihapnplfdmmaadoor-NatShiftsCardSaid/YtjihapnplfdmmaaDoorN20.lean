/-
  math/bits.TrailingZeros32 over its table; package nat: lowBits, Shift.
-/
import Derived.Test.YtjihapnplfdmmaaDoorN19
import Derived.Lib.TrailingZeros
namespace Go.Proofs.YtjihapnplfdmmaaDoor
open Go.RowKit
set_option linter.unusedVariables false
namespace NC
open L
open Z (Nz Tz cmpv)
/-- the library's table as its initialiser lays it -/
def TabD (w : World) : Prop := ∀ j, j < 32 → w.cell? ⟨0, j, none⟩ = some (.int .u8 (Lib.deBruijn32tab.getD j 0))
theorem TabD.below {w w' : World} (h : TabD w) (hb : Below w.heap.size w w') : TabD w' := fun j hj => (hb.cell (World.block_lt_of_cell? w _ (h j hj))).trans (h j hj)
theorem TabD.drewN {w : World} (h : TabD w) (k : Nat) : TabD (w.drewN k) := h
theorem tz_core (x k idx : Nat) (w : World) (hx0 : ((x : Int) == 0) = false)
    (key : bits BinOp.and IntKind.u32 (x : Int) (-(x : Int) % 4294967296) * 125613361 % 4294967296 / 134217728 = (idx : Int))
    (hi : idx < 32) (hk : k < 32) (hcell : w.cell? ⟨0, idx, none⟩ = some (.int .u8 k)) :
    Calls Tryd.prog 55 #[.int .u32 x] w fun e w' => e = .returned (.int .i64 k) ∧ w = w' := by
  go_enter Tryd.func55, Tryd.ntmps55
  go_wp2_with (simp only [key])
  go_ret
  exact ⟨rfl, rfl⟩
theorem tz_key (x a : Nat) (hx : x < 4294967296) (hx0 : x ≠ 0) (hlow : x &&& (4294967296 - x) = a) :
    bits BinOp.and IntKind.u32 (x : Int) (-(x : Int) % 4294967296) * 125613361 % 4294967296 / 134217728 = ((a * 125613361 % 4294967296 / 134217728 : Nat) : Int) := by
  have e1 : -(x : Int) % 4294967296 = ((4294967296 - x : Nat) : Int) := by omega
  rw [e1, and_u32 x _ hx (by omega), hlow]
  omega
/-- trailing noughts of a limb that is not 0: 2^t times an odd number -/
theorem tz_c (x : Int) (w : World) (h0 : 0 < x) (h1 : x < 4294967296) (hT : TabD w) :
    ∃ t : Nat, t < 32 ∧ (∃ m : Int, x = 2 ^ t * (2 * m + 1)) ∧ Calls Tryd.prog 55 #[.int .u32 x] w fun e w' => e = .returned (.int .i64 t) ∧ w = w' := by
  obtain ⟨a, rfl⟩ := Int.eq_ofNat_of_zero_le (Int.le_of_lt h0)
  have ha : a ≠ 0 := by omega
  have hlt : a < 4294967296 := by omega
  obtain ⟨hlow, hk⟩ := Lib.lowest_bit 32 a ha hlt
  obtain ⟨hi, htab⟩ := Lib.deBruijn32_at _ hk
  obtain ⟨m, hm, _⟩ := Lib.ctzFrom_spec 32 a (by omega) hlt
  refine ⟨Lib.ctz 32 a, hk, ⟨m, ?_⟩, ?_⟩
  · have hm2 : a = 2 ^ Lib.ctz 32 a * (2 * m + 1) := by
      have e : Lib.ctz 32 a = Lib.ctzFrom 32 a := by unfold Lib.ctz; rw [if_neg ha]
      rw [e]; exact hm
    have := congrArg (fun n : Nat => (n : Int)) hm2
    simp only [Int.natCast_mul, Int.natCast_pow, Int.natCast_add] at this
    exact this
  · have hcell := hT _ hi
    rw [htab] at hcell
    exact tz_core a _ _ w (by simp; omega) (tz_key a _ hlt ha hlow) hi hk hcell
theorem odd_mod (e n : Nat) (o : Int) : (2 ^ e * (2 * o + 1)) % 2 ^ n ≠ 0 ↔ e < n := by
  constructor
  · intro h
    rcases Nat.lt_or_ge e n with h1 | h1
    · exact h1
    · exfalso
      apply h
      rw [show e = n + (e - n) by omega, Int.pow_add, Int.mul_assoc]
      exact Int.mul_emod_right _ _
  · intro h h1
    have hp := two_pos e
    obtain ⟨q, hq⟩ := Int.dvd_of_emod_eq_zero h1
    rw [show n = e + (n - e - 1) + 1 by omega, Int.pow_succ, Int.pow_add] at hq
    have h2 : 2 ^ e * (2 * o + 1) = 2 ^ e * (2 * (2 ^ (n - e - 1) * q)) := by rw [hq]; grind
    have h3 := Int.eq_of_mul_eq_mul_left (by omega) h2
    omega
/-- the lowest limb that is not 0 tells where the lowest bit is -/
theorem low_spec {l : List Int} (hl : Lim l) {k t : Nat} {x m : Int} (hk : k < l.length) (hz : lv (l.take k) = 0) (hx : l.getD k 0 = x) (ht : t < 32) (hm : x = 2 ^ t * (2 * m + 1)) (n : Nat) : lv l % 2 ^ n ≠ 0 ↔ 32 * k + t < n := by
  have h := lv_split l k hk
  rw [hz, hx, hm] at h
  have e : (4294967296 : Int) = 2 ^ t * (2 * 2 ^ (31 - t)) := by
    rw [← Int.mul_assoc, Int.mul_comm (2 ^ t) 2, Int.mul_assoc, ← Int.pow_add, show t + (31 - t) = 31 by omega]; decide
  have e2 : lv l = 2 ^ (32 * k + t) * (2 * (m + 2 ^ (31 - t) * lv (l.drop (k + 1))) + 1) := by
    rw [h, pow_two, Int.pow_add]
    generalize lv (l.drop (k + 1)) = D
    have e3 : 2 ^ t * (2 * m + 1) + 4294967296 * D = 2 ^ t * (2 * (m + 2 ^ (31 - t) * D) + 1) := by
      have : 4294967296 * D = 2 ^ t * (2 * 2 ^ (31 - t)) * D := by rw [← e]
      rw [this]; grind
    rw [e3]; grind
  rw [e2]
  exact odd_mod _ _ _
theorem lowBits_c (v : Value) (l : List Int) (n : Nat) (w : World) (hs : Sl .u32 w v l) (Ll : Lim l) (hl : l.length ≤ 1000000) (hn : n ≤ 1000000) (hT : TabD w) :
    Calls Tryd.prog 35 #[v, .int .i64 n] w fun e w' => e = .returned (.bool (decide (lv l % 2 ^ n ≠ 0))) ∧ w = w' := by
  obtain ⟨A, c, rfl, hc⟩ := hs.form
  have HS := Lib.hid hs
  have LL := Lib.hid Ll
  have HT := Lib.hid hT
  obtain ⟨x, ex⟩ : ∃ x, l.length = x := ⟨_, rfl⟩
  obtain ⟨r, hr⟩ : ∃ r, r = decide (lv l % 2 ^ n ≠ 0) := ⟨_, rfl⟩
  rw [← hr]
  rw [ex] at hc hl HS ⊢
  have EX := Lib.hid ex
  have HR := Lib.hid hr
  clear hs Ll ex hr hT
  go_enter Tryd.func35, Tryd.ntmps35
  go_wp2
  go_loop [9] (fun i => ∃ k : Nat, k ≤ x ∧ i = .int .i64 k ∧ Hid (lv (l.take k) = 0)) (fun i => x - (intOf i).toNat)
  case atStart => exact ⟨0, by omega, rfl, by show lv _ = 0; simp [lv]⟩
  case round =>
    obtain ⟨k, hk, rfl, hz⟩ := hrel
    by_cases hkx : k < x
    · obtain ⟨ad, c', e, hc', hb, hcell⟩ := HS.out.at_ k (by rw [EX.out]; exact hkx)
      injection e with e1 e2 e3
      subst e1
      clear e2 e3 hc' c' hb
      obtain ⟨q, hq⟩ : ∃ q, l.getD k 0 = q := ⟨_, rfl⟩
      have bq := LL.out.at_ k
      rw [hq] at hcell bq
      by_cases h0 : q = 0
      · have h1 : (q != 0) = false := by simp [h0]
        have HZ2 : Hid (lv (l.take (k + 1)) = 0) := by show lv _ = 0; rw [lv_take_succ, hq, h0, hz.out]; simp
        clear h0 hq
        go_wp2
        go_round
        case rel => exact ⟨k + 1, by omega, by simp, HZ2.out⟩
        case measure => simp [intOf]; omega
      · have h1 : (q != 0) = true := by simp [h0]
        obtain ⟨t, ht, ⟨m, hm⟩, TZ⟩ := tz_c q w (by omega) bq.2 HT.out
        have hsp := low_spec LL.out (by rw [EX.out]; exact hkx) hz.out hq ht hm n
        have TZ := Lib.hid TZ
        have HE : Hid (r = decide ((32 * k + t : Nat) < n)) := by show _ = _; rw [HR.out]; exact decide_eq_decide.2 hsp
        clear h0 hq hm hsp
        go_wp2_with (first | (go_at_call 55; (with_reducible refine (TZ.out).mono ?_); rintro e w' ⟨rfl, rfl⟩))
        go_ret
        refine ⟨ret_bool ?_, rfl⟩
        rw [HE.out]
        apply decide_eq_decide.2
        omega
    · obtain rfl : x = k := by omega
      have HE : Hid (r = false) := by
        show _ = _
        rw [HR.out]
        have := hz.out
        rw [← EX.out, List.take_length] at this
        rw [this]
        simp
      go_wp2
      go_ret
      exact ⟨ret_bool HE.out.symm, rfl⟩
theorem ShiftDown_c (v : Value) (l : List Int) (n : Nat) (w : World) (hs : Sl .u32 w v l) (Ll : Lim l) (h : chk l = 0) (hn : n ≤ 20000) (hn0 : 0 < n) (hT : TabD w) : Calls Tryd.prog 9 #[v, .int .i64 (-(n : Int))] w (RetSh w 0 (lv l / 2 ^ n) (decide (lv l % 2 ^ n ≠ 0))) := by
  have h1 := chk_ok.1 h
  have C := Lib.hid (Check_c v l w hs (by omega))
  have S := Lib.hid (shiftDown_c v l n w hs Ll (by omega) (by omega))
  have LB : Hid (∀ W, Below w.heap.size w W → Calls Tryd.prog 35 #[v, .int .i64 n] W fun e w' => e = .returned (.bool (decide (lv l % 2 ^ n ≠ 0))) ∧ W = w') := fun W hb => lowBits_c v l n W (hs.below hb) Ll (by omega) (by omega) (hT.below hb)
  rw [h] at C
  generalize lv l / 2 ^ n = z at *
  generalize decide (lv l % 2 ^ n ≠ 0) = b at *
  have h2 : ¬ -(n : Int) < -20000 := by omega
  have h3 : ¬ (20000 : Int) < -(n : Int) := by omega
  have h4 : -(n : Int) < 0 := by omega
  clear hs Ll h h1 hT
  go_enter Tryd.func9, Tryd.ntmps9
  go_wp2_with (first | (go_at_call 32; (with_reducible refine (C.out).mono ?_); rintro e w' ⟨rfl, rfl⟩) | (go_at_call 34; (with_reducible refine (S.out).mono ?_); rintro e w2 ⟨A, m, c, rfl, hv, hb⟩) | (go_at_call 35; (with_reducible refine (LB.out _ hb).mono ?_); rintro e w' ⟨rfl, rfl⟩))
  go_ret3
  exact ⟨A, m, c, rfl, hv, hb⟩
end NC
end Go.Proofs.YtjihapnplfdmmaaDoor
