/-
  Texts glued together for a claim: N19 NK1 NK2 NK3 N20 NK4 D1 D2 NOf D3 Held D4 D5.
-/
import Derived.Test.YtnpeokgjfnobmaaDoorM2
import Derived.Lib.TrailingZeros
import Derived.OrdersHeld
import Derived.Deep.RegionHeld3
import Derived.Deep.DeepCutAuto
/-
  ulpkeep.natLives.
-/
namespace Go.Proofs.YtnpeokgjfnobmaaDoor
set_option linter.unusedVariables false
set_option linter.unusedSimpArgs false
open Go.RowKit
set_option linter.unusedVariables false
namespace NC
open L
open Z (Nz Tz cmpv)
def decF : Nat → Nat → List UInt8
  | 0, _ => []
  | f + 1, n => if n < 10 then [dg n] else decF f (n / 10) ++ [dg n]
theorem dec_eq : ∀ (f n : Nat), n < 10 ^ (f + 1) → dec n = decF (f + 1) n := by
  intro f
  induction f with
  | zero => intro n h; rw [dec_small (by omega), decF, if_pos (by omega)]
  | succ f ih =>
    intro n h
    by_cases h0 : n < 10
    · rw [dec_small h0, decF, if_pos h0]
    · rw [dec_more h0, decF, if_neg h0, ih _ (by rw [Nat.pow_succ] at h; omega)]
theorem ok_lit (w : World) (zs : List Int) (hn : zs.length ≤ 1000) :
    Calls Tryd.prog 50 #[.slice (some ⟨w.heap.size, 0, none⟩) zs.length zs.length] (w.alloc (.cells (zs.map (Value.int .i64)).toArray 23)) fun e w' => e = .returned (.bool (zs.all (· == 0))) ∧ w.alloc (.cells (zs.map (Value.int .i64)).toArray 23) = w' := by
  refine OkC.ok_c zs w.heap.size 0 zs.length _ hn fun i hi => ?_
  have hb := Blk.new w 23 (zs.map (Value.int .i64)).toArray
  rw [Nat.zero_add]
  refine hb.at_ i ?_
  rw [List.getElem?_toArray, List.getElem?_map, List.getD_eq_getElem?_getD, List.getElem?_eq_getElem hi]; rfl
theorem lives_text : bs (dec 6338253001141147007483516026880) = ⟨#[54, 51, 51, 56, 50, 53, 51, 48, 48, 49, 49, 52, 49, 49, 52, 55, 48, 48, 55, 52, 56, 51, 53, 49, 54, 48, 50, 54, 56, 56, 48]⟩ := by
  rw [dec_eq 30 _ (by decide)]
  decide +kernel
theorem small_400 {z : Int} (h : z < 4294967296 ^ 5) : z < 4294967296 ^ 400 := Int.lt_of_lt_of_le h (pow_mono (by decide))
theorem small_big {z : Int} (h : z < 4294967296 ^ 5) : z < big3 := Int.lt_of_lt_of_le h (pow_mono (by decide))
theorem erz0 {z : Int} (h : z < 4294967296 ^ 5) : erz z = 0 := by unfold erz; rw [if_pos (small_400 h)]
end NC
end Go.Proofs.YtnpeokgjfnobmaaDoor

/-
  NatDivides: the walk.
-/
namespace Go.Proofs.YtnpeokgjfnobmaaDoor
set_option linter.unusedVariables false
set_option linter.unusedSimpArgs false
open Go.RowKit
set_option linter.unusedVariables false
namespace NK
open L NC
open Z (Nz Tz cmpv)
theorem NV.zero {w : World} {A : Option Addr} {n c : Nat} (h : NV w (.slice A n c) 0) : n = 0 := by
  obtain ⟨L, h1, h2, h3, h4⟩ := h
  have e := lv_inj h2 Lim.nil h3 (by intro h; exact absurd rfl h) (h4.trans (show (0 : Int) = lv [] from rfl))
  have := h1.len_.1
  rw [this, e]; rfl
theorem Mul_0 {u v : Value} {a b : Int} {w : World} (h1 : PV w u 0 a) (h2 : PV w v 0 b) : Calls Tryd.prog 80 #[u, v] w (RetP w 0 (a * b)) := Mul_p h1 h2
theorem Add_0 {u v : Value} {a b : Int} {w : World} (h1 : PV w u 0 a) (h2 : PV w v 0 b) : Calls Tryd.prog 108 #[u, v] w (RetP w 0 (a + b)) := Add_p h1 h2
theorem Cmp_0 {u v : Value} {a b : Int} {w : World} (h1 : PV w u 0 a) (h2 : PV w v 0 b) : Calls Tryd.prog 97 #[u, v] w (RetQ w (.tuple #[.int .i64 (cmpv a b), .int .i64 0])) := Cmp_p h1 h2
theorem Sub_0 {u v : Value} {a b : Int} {w : World} (h1 : PV w u 0 a) (h2 : PV w v 0 b) (h : b ≤ a) : Calls Tryd.prog 110 #[u, v] w (RetP w 0 (a - b)) := by
  have h3 := Sub_p h1 h2
  have e : es 0 0 a b = 0 := by unfold es; rw [if_pos (ee0.2 ⟨rfl, rfl⟩), if_neg (by omega)]
  rwa [e, if_pos rfl] at h3
theorem Equal_0 {s t : Value} {z : Int} {w : World} (hs : NV w s z) (ht : NV w t z) (b1 : z < big3) : Calls Tryd.prog 31 #[s, t] w (RetQ w (.bool true)) := by
  have h := Equal_p hs ht b1 b1
  simpa using h
theorem erz_0 {z : Int} (h : z < 4294967296 ^ 400) : erz z = 0 := by unfold erz; rw [if_pos h]
theorem lit_below (w : World) (o : Obj) : Below w.heap.size w (w.alloc o) := (Below.refl _ _).alloc (Nat.le_refl _) _
end NK
end Go.Proofs.YtnpeokgjfnobmaaDoor

/-
  NatRoots, NatRing: the walks.
-/
namespace Go.Proofs.YtnpeokgjfnobmaaDoor
set_option linter.unusedVariables false
set_option linter.unusedSimpArgs false
open Go.RowKit
set_option linter.unusedVariables false
namespace NK
open L NC
open Z (Nz Tz cmpv)
theorem root_eq {R A z : Int} (h1 : R * R ≤ z) (h2 : z < (R + 1) * (R + 1)) (h3 : 0 ≤ R) (h4 : A * A ≤ z) (h5 : z < (A + 1) * (A + 1)) (h6 : 0 ≤ A) : R = A := by
  rcases Int.lt_or_le R A with h | h
  · have := Int.mul_le_mul (show R + 1 ≤ A by omega) (show R + 1 ≤ A by omega) (by omega) h6
    omega
  · rcases Int.lt_or_le A R with h' | h'
    · have := Int.mul_le_mul (show A + 1 ≤ R by omega) (show A + 1 ≤ R by omega) (by omega) h3
      omega
    · omega
theorem ok2_no (W : World) (x y : Int) (h : x ≠ 0 ∨ y ≠ 0) : Calls Tryd.prog 50 #[.slice (some ⟨W.heap.size, 0, none⟩) 2 2] (W.alloc (.cells #[.int .i64 x, .int .i64 y] 23)) fun e w' => e = .returned (.bool false) ∧ W.alloc (.cells #[.int .i64 x, .int .i64 y] 23) = w' := by
  have h1 := ok_lit W [x, y] (by simp)
  have e : ([x, y].all (· == 0)) = false := by
    rcases h with h | h <;> simp [h]
  rw [e] at h1
  exact h1
theorem ok2_yes (W : World) : Calls Tryd.prog 50 #[.slice (some ⟨W.heap.size, 0, none⟩) 2 2] (W.alloc (.cells #[.int .i64 0, .int .i64 0] 23)) fun e w' => e = .returned (.bool true) ∧ W.alloc (.cells #[.int .i64 0, .int .i64 0] 23) = w' := ok_lit W [0, 0] (by simp)
theorem one_pv (W : World) : PV (W.alloc (.cells #[.int .u32 1] 56)) (.slice (some ⟨W.heap.size, 0, none⟩) 1 1) 0 1 :=
  ⟨[1], Row.sl (L := [1]) (Blk.new W 56 #[.int .u32 1]) 1 (by simp), by intro d hd; simp at hd; omega, by simp, by decide, by simp [lv]⟩
end NK
end Go.Proofs.YtnpeokgjfnobmaaDoor

/-
  NatRing: the walk.
-/
namespace Go.Proofs.YtnpeokgjfnobmaaDoor
set_option linter.unusedVariables false
set_option linter.unusedSimpArgs false
open Go.RowKit
set_option linter.unusedVariables false
namespace NK
open L NC
open Z (Nz Tz cmpv)
/-- the result of a sum, a product: its limbs, small enough -/
def RetG (w : World) (er z : Int) (e : Ending) (w' : World) : Prop := ∃ A n c, e = .returned (.tuple #[.slice A n c, .int .i64 er]) ∧ PV w' (.slice A n c) (erz z) z ∧ NV w' (.slice A n c) z ∧ Below w.heap.size w w'
theorem add_gen {u v : Value} {e1 e2 a b E z : Int} (hE : ee e1 e2 = E) (hz : (if E = 0 then a + b else 0) = z) : ∀ W, PV W u e1 a → PV W v e2 b → Calls Tryd.prog 108 #[u, v] W (RetP W E z) := fun W h1 h2 => by
  have h := Add_p h1 h2
  rwa [hE, hz] at h
theorem mul_gen {u v : Value} {e1 e2 a b E z : Int} (hE : ee e1 e2 = E) (hz : (if E = 0 then a * b else 0) = z) : ∀ W, PV W u e1 a → PV W v e2 b → Calls Tryd.prog 80 #[u, v] W (RetP W E z) := fun W h1 h2 => by
  have h := Mul_p h1 h2
  rwa [hE, hz] at h
theorem erz_small {z : Int} (h : erz z = 0) : z < 4294967296 ^ 400 := by
  unfold erz at h
  by_cases h' : z < 4294967296 ^ 400
  · exact h'
  · rw [if_neg h'] at h; cases h
theorem add_bd {e1 e2 a b E z : Int} (hE : ee e1 e2 = E) (hz : (if E = 0 then a + b else 0) = z) (h1 : e1 = 0 → a < 4294967296 ^ 400) (h2 : e2 = 0 → b < 4294967296 ^ 400) (ha : 0 ≤ a) (hb : 0 ≤ b) : 0 ≤ z ∧ z < big3 ∧ (E = 0 → e1 = 0 ∧ e2 = 0 ∧ z = a + b) := by
  by_cases h : E = 0
  · rw [if_pos h] at hz
    rw [h] at hE
    have h3 := ee0.1 hE
    have h4 := big3_bds (h1 h3.1) (h2 h3.2) ha hb
    exact ⟨by omega, by rw [← hz]; exact h4.1, fun _ => ⟨h3.1, h3.2, hz.symm⟩⟩
  · rw [if_neg h] at hz
    exact ⟨by omega, by rw [← hz]; exact big3_pos, fun h' => absurd h' h⟩
theorem mul_bd {e1 e2 a b E z : Int} (hE : ee e1 e2 = E) (hz : (if E = 0 then a * b else 0) = z) (h1 : e1 = 0 → a < 4294967296 ^ 400) (h2 : e2 = 0 → b < 4294967296 ^ 400) (ha : 0 ≤ a) (hb : 0 ≤ b) : 0 ≤ z ∧ z < big3 ∧ (E = 0 → e1 = 0 ∧ e2 = 0 ∧ z = a * b) := by
  by_cases h : E = 0
  · rw [if_pos h] at hz
    rw [h] at hE
    have h3 := ee0.1 hE
    have h4 := big3_bds (h1 h3.1) (h2 h3.2) ha hb
    exact ⟨by rw [← hz]; exact Int.mul_nonneg ha hb, by rw [← hz]; exact h4.2.1, fun _ => ⟨h3.1, h3.2, hz.symm⟩⟩
  · rw [if_neg h] at hz
    exact ⟨by omega, by rw [← hz]; exact big3_pos, fun h' => absurd h' h⟩
theorem bdrew {B : Nat} {w W : World} (h : Below B w W) (k : Nat) : Below B w (W.drewN k) := ⟨h.os, h.tape, h.output, h.size, h.block⟩
theorem bself (w : World) (k : Nat) : Below w.heap.size w (w.drewN k) := ⟨rfl, rfl, rfl, Nat.le_refl _, fun _ _ => rfl⟩
theorem ee_comm0 {a b : Int} : ee a b = 0 ↔ ee b a = 0 := by rw [ee0, ee0, and_comm]
/-- what is told of equal limbs, as a bool with a name -/
theorem equal_gen {s t : Value} {y z : Int} {W : World} (hs : NV W s y) (ht : NV W t z) (h : y = z) (b1 : y < big3) : Calls Tryd.prog 31 #[s, t] W (RetQ W (.bool true)) := by
  subst h
  exact Equal_0 hs ht b1
theorem ok4 (W : World) (x1 x2 x3 x4 : Int) (o : Bool) (ho : [x1, x2, x3, x4].all (· == 0) = o) : Calls Tryd.prog 50 #[.slice (some ⟨W.heap.size, 0, none⟩) 4 4] (W.alloc (.cells #[.int .i64 x1, .int .i64 x2, .int .i64 x3, .int .i64 x4] 23)) fun e w' => e = .returned (.bool o) ∧ W.alloc (.cells #[.int .i64 x1, .int .i64 x2, .int .i64 x3, .int .i64 x4] 23) = w' := by
  have h1 := ok_lit W [x1, x2, x3, x4] (by simp)
  rw [ho] at h1
  exact h1
theorem ok5 (W : World) (x1 x2 x3 x4 x5 : Int) (o : Bool) (ho : [x1, x2, x3, x4, x5].all (· == 0) = o) : Calls Tryd.prog 50 #[.slice (some ⟨W.heap.size, 0, none⟩) 5 5] (W.alloc (.cells #[.int .i64 x1, .int .i64 x2, .int .i64 x3, .int .i64 x4, .int .i64 x5] 23)) fun e w' => e = .returned (.bool o) ∧ W.alloc (.cells #[.int .i64 x1, .int .i64 x2, .int .i64 x3, .int .i64 x4, .int .i64 x5] 23) = w' := by
  have h1 := ok_lit W [x1, x2, x3, x4, x5] (by simp)
  rw [ho] at h1
  exact h1
end NK
end Go.Proofs.YtnpeokgjfnobmaaDoor

/-
  math/bits.TrailingZeros32 over its table; package nat: lowBits, Shift.
-/
namespace Go.Proofs.YtnpeokgjfnobmaaDoor
set_option linter.unusedVariables false
set_option linter.unusedSimpArgs false
open Go.RowKit
set_option linter.unusedVariables false
namespace NC
open L
open Z (Nz Tz cmpv)
/-- the library's table as its initialiser lays it -/
def TabD (w : World) : Prop := ∀ j, j < 32 → w.cell? ⟨0, j, none⟩ = some (.int .u8 (Lib.deBruijn32tab.getD j 0))
theorem TabD.below {w w' : World} (h : TabD w) (hb : Below w.heap.size w w') : TabD w' := fun j hj => (hb.cell (World.block_lt_of_cell? w _ (h j hj))).trans (h j hj)
theorem TabD.drewN {w : World} (h : TabD w) (k : Nat) : TabD (w.drewN k) := h
theorem tz_core (x k idx : Nat) (w : World) (hx0 : ((x : Int) == 0) = false)
    (key : bits BinOp.and IntKind.u32 (x : Int) (-(x : Int) % 4294967296) * 125613361 % 4294967296 / 134217728 = (idx : Int))
    (hi : idx < 32) (hk : k < 32) (hcell : w.cell? ⟨0, idx, none⟩ = some (.int .u8 k)) :
    Calls Tryd.prog 83 #[.int .u32 x] w fun e w' => e = .returned (.int .i64 k) ∧ w = w' := by
  go_enter Tryd.func83, Tryd.ntmps83
  go_wp2_with (simp only [key])
  go_ret
  exact ⟨rfl, rfl⟩
theorem tz_key (x a : Nat) (hx : x < 4294967296) (hx0 : x ≠ 0) (hlow : x &&& (4294967296 - x) = a) :
    bits BinOp.and IntKind.u32 (x : Int) (-(x : Int) % 4294967296) * 125613361 % 4294967296 / 134217728 = ((a * 125613361 % 4294967296 / 134217728 : Nat) : Int) := by
  have e1 : -(x : Int) % 4294967296 = ((4294967296 - x : Nat) : Int) := by omega
  rw [e1, and_u32 x _ hx (by omega), hlow]
  omega
/-- trailing noughts of a limb that is not 0: 2^t times an odd number -/
theorem tz_c (x : Int) (w : World) (h0 : 0 < x) (h1 : x < 4294967296) (hT : TabD w) :
    ∃ t : Nat, t < 32 ∧ (∃ m : Int, x = 2 ^ t * (2 * m + 1)) ∧ Calls Tryd.prog 83 #[.int .u32 x] w fun e w' => e = .returned (.int .i64 t) ∧ w = w' := by
  obtain ⟨a, rfl⟩ := Int.eq_ofNat_of_zero_le (Int.le_of_lt h0)
  have ha : a ≠ 0 := by omega
  have hlt : a < 4294967296 := by omega
  obtain ⟨hlow, hk⟩ := Lib.lowest_bit 32 a ha hlt
  obtain ⟨hi, htab⟩ := Lib.deBruijn32_at _ hk
  obtain ⟨m, hm, _⟩ := Lib.ctzFrom_spec 32 a (by omega) hlt
  refine ⟨Lib.ctz 32 a, hk, ⟨m, ?_⟩, ?_⟩
  · have hm2 : a = 2 ^ Lib.ctz 32 a * (2 * m + 1) := by
      have e : Lib.ctz 32 a = Lib.ctzFrom 32 a := by unfold Lib.ctz; rw [if_neg ha]
      rw [e]; exact hm
    have := congrArg (fun n : Nat => (n : Int)) hm2
    simp only [Int.natCast_mul, Int.natCast_pow, Int.natCast_add] at this
    exact this
  · have hcell := hT _ hi
    rw [htab] at hcell
    exact tz_core a _ _ w (by simp; omega) (tz_key a _ hlt ha hlow) hi hk hcell
theorem odd_mod (e n : Nat) (o : Int) : (2 ^ e * (2 * o + 1)) % 2 ^ n ≠ 0 ↔ e < n := by
  constructor
  · intro h
    rcases Nat.lt_or_ge e n with h1 | h1
    · exact h1
    · exfalso
      apply h
      rw [show e = n + (e - n) by omega, Int.pow_add, Int.mul_assoc]
      exact Int.mul_emod_right _ _
  · intro h h1
    have hp := two_pos e
    obtain ⟨q, hq⟩ := Int.dvd_of_emod_eq_zero h1
    rw [show n = e + (n - e - 1) + 1 by omega, Int.pow_succ, Int.pow_add] at hq
    have h2 : 2 ^ e * (2 * o + 1) = 2 ^ e * (2 * (2 ^ (n - e - 1) * q)) := by rw [hq]; grind
    have h3 := Int.eq_of_mul_eq_mul_left (by omega) h2
    omega
/-- the lowest limb that is not 0 tells where the lowest bit is -/
theorem low_spec {l : List Int} (hl : Lim l) {k t : Nat} {x m : Int} (hk : k < l.length) (hz : lv (l.take k) = 0) (hx : l.getD k 0 = x) (ht : t < 32) (hm : x = 2 ^ t * (2 * m + 1)) (n : Nat) : lv l % 2 ^ n ≠ 0 ↔ 32 * k + t < n := by
  have h := lv_split l k hk
  rw [hz, hx, hm] at h
  have e : (4294967296 : Int) = 2 ^ t * (2 * 2 ^ (31 - t)) := by
    rw [← Int.mul_assoc, Int.mul_comm (2 ^ t) 2, Int.mul_assoc, ← Int.pow_add, show t + (31 - t) = 31 by omega]; decide
  have e2 : lv l = 2 ^ (32 * k + t) * (2 * (m + 2 ^ (31 - t) * lv (l.drop (k + 1))) + 1) := by
    rw [h, pow_two, Int.pow_add]
    generalize lv (l.drop (k + 1)) = D
    have e3 : 2 ^ t * (2 * m + 1) + 4294967296 * D = 2 ^ t * (2 * (m + 2 ^ (31 - t) * D) + 1) := by
      have : 4294967296 * D = 2 ^ t * (2 * 2 ^ (31 - t)) * D := by rw [← e]
      rw [this]; grind
    rw [e3]; grind
  rw [e2]
  exact odd_mod _ _ _
theorem lowBits_c (v : Value) (l : List Int) (n : Nat) (w : World) (hs : Sl .u32 w v l) (Ll : Lim l) (hl : l.length ≤ 1000000) (hn : n ≤ 1000000) (hT : TabD w) :
    Calls Tryd.prog 54 #[v, .int .i64 n] w fun e w' => e = .returned (.bool (decide (lv l % 2 ^ n ≠ 0))) ∧ w = w' := by
  obtain ⟨A, c, rfl, hc⟩ := hs.form
  have HS := Lib.hid hs
  have LL := Lib.hid Ll
  have HT := Lib.hid hT
  obtain ⟨x, ex⟩ : ∃ x, l.length = x := ⟨_, rfl⟩
  obtain ⟨r, hr⟩ : ∃ r, r = decide (lv l % 2 ^ n ≠ 0) := ⟨_, rfl⟩
  rw [← hr]
  rw [ex] at hc hl HS ⊢
  have EX := Lib.hid ex
  have HR := Lib.hid hr
  clear hs Ll ex hr hT
  go_enter Tryd.func54, Tryd.ntmps54
  go_wp2
  go_loop [9] (fun i => ∃ k : Nat, k ≤ x ∧ i = .int .i64 k ∧ Hid (lv (l.take k) = 0)) (fun i => x - (intOf i).toNat)
  case atStart => exact ⟨0, by omega, rfl, by show lv _ = 0; simp [lv]⟩
  case round =>
    obtain ⟨k, hk, rfl, hz⟩ := hrel
    by_cases hkx : k < x
    · obtain ⟨ad, c', e, hc', hb, hcell⟩ := HS.out.at_ k (by rw [EX.out]; exact hkx)
      injection e with e1 e2 e3
      subst e1
      clear e2 e3 hc' c' hb
      obtain ⟨q, hq⟩ : ∃ q, l.getD k 0 = q := ⟨_, rfl⟩
      have bq := LL.out.at_ k
      rw [hq] at hcell bq
      by_cases h0 : q = 0
      · have h1 : (q != 0) = false := by simp [h0]
        have HZ2 : Hid (lv (l.take (k + 1)) = 0) := by show lv _ = 0; rw [lv_take_succ, hq, h0, hz.out]; simp
        clear h0 hq
        go_wp2
        go_round
        case rel => exact ⟨k + 1, by omega, by simp, HZ2.out⟩
        case measure => simp [intOf]; omega
      · have h1 : (q != 0) = true := by simp [h0]
        obtain ⟨t, ht, ⟨m, hm⟩, TZ⟩ := tz_c q w (by omega) bq.2 HT.out
        have hsp := low_spec LL.out (by rw [EX.out]; exact hkx) hz.out hq ht hm n
        have TZ := Lib.hid TZ
        have HE : Hid (r = decide ((32 * k + t : Nat) < n)) := by show _ = _; rw [HR.out]; exact decide_eq_decide.2 hsp
        clear h0 hq hm hsp
        go_wp2_with (first | (go_at_call 83; (with_reducible refine (TZ.out).mono ?_); rintro e w' ⟨rfl, rfl⟩))
        go_ret
        refine ⟨ret_bool ?_, rfl⟩
        rw [HE.out]
        apply decide_eq_decide.2
        omega
    · obtain rfl : x = k := by omega
      have HE : Hid (r = false) := by
        show _ = _
        rw [HR.out]
        have := hz.out
        rw [← EX.out, List.take_length] at this
        rw [this]
        simp
      go_wp2
      go_ret
      exact ⟨ret_bool HE.out.symm, rfl⟩
theorem ShiftDown_c (v : Value) (l : List Int) (n : Nat) (w : World) (hs : Sl .u32 w v l) (Ll : Lim l) (h : chk l = 0) (hn : n ≤ 20000) (hn0 : 0 < n) (hT : TabD w) : Calls Tryd.prog 11 #[v, .int .i64 (-(n : Int))] w (RetSh w 0 (lv l / 2 ^ n) (decide (lv l % 2 ^ n ≠ 0))) := by
  have h1 := chk_ok.1 h
  have C := Lib.hid (Check_c v l w hs (by omega))
  have S := Lib.hid (shiftDown_c v l n w hs Ll (by omega) (by omega))
  have LB : Hid (∀ W, Below w.heap.size w W → Calls Tryd.prog 54 #[v, .int .i64 n] W fun e w' => e = .returned (.bool (decide (lv l % 2 ^ n ≠ 0))) ∧ W = w') := fun W hb => lowBits_c v l n W (hs.below hb) Ll (by omega) (by omega) (hT.below hb)
  rw [h] at C
  generalize lv l / 2 ^ n = z at *
  generalize decide (lv l % 2 ^ n ≠ 0) = b at *
  have h2 : ¬ -(n : Int) < -20000 := by omega
  have h3 : ¬ (20000 : Int) < -(n : Int) := by omega
  have h4 : -(n : Int) < 0 := by omega
  clear hs Ll h h1 hT
  go_enter Tryd.func11, Tryd.ntmps11
  go_wp2_with (first | (go_at_call 51; (with_reducible refine (C.out).mono ?_); rintro e w' ⟨rfl, rfl⟩) | (go_at_call 53; (with_reducible refine (S.out).mono ?_); rintro e w2 ⟨A, m, c, rfl, hv, hb⟩) | (go_at_call 54; (with_reducible refine (LB.out _ hb).mono ?_); rintro e w' ⟨rfl, rfl⟩))
  go_ret3
  exact ⟨A, m, c, rfl, hv, hb⟩
end NC
end Go.Proofs.YtnpeokgjfnobmaaDoor

/-
  NatShifts: the walk.
-/
namespace Go.Proofs.YtnpeokgjfnobmaaDoor
set_option linter.unusedVariables false
set_option linter.unusedSimpArgs false
open Go.RowKit
set_option linter.unusedVariables false
namespace NK
open L NC
open Z (Nz Tz cmpv)
theorem two_mono {a b : Nat} (h : a ≤ b) : (2 : Int) ^ a ≤ 2 ^ b := by
  obtain ⟨d, rfl⟩ : ∃ d, b = a + d := ⟨b - a, by omega⟩
  rw [Int.pow_add]
  have h1 := two_pos a
  have h2 := two_pos d
  have := Int.mul_le_mul_of_nonneg_left (show (1 : Int) ≤ 2 ^ d by omega) (Int.le_of_lt h1)
  omega
theorem two_lt {a b : Nat} (h : (2 : Int) ^ a < 2 ^ b) : a < b := by
  rcases Nat.lt_or_ge a b with h1 | h1
  · exact h1
  · have := two_mono h1; omega
theorem bits_shift {z : Int} {n k m : Nat} (h0 : 0 < z) (h1 : z < 2 ^ k ∧ (k = 0 ∨ 2 ^ (k - 1) ≤ z)) (h2 : z * 2 ^ n < 2 ^ m ∧ (m = 0 ∨ 2 ^ (m - 1) ≤ z * 2 ^ n)) : m = k + n := by
  have hn := two_pos n
  have hx : 0 < z * 2 ^ n := Int.mul_pos h0 hn
  have hk : k ≠ 0 := by intro e; rw [e] at h1; simp at h1; omega
  have hm : m ≠ 0 := by intro e; rw [e] at h2; simp at h2; omega
  have g1 : 2 ^ (k - 1 + n) ≤ z * 2 ^ n := by
    rw [Int.pow_add]
    exact Int.mul_le_mul_of_nonneg_right (h1.2.resolve_left hk) (Int.le_of_lt hn)
  have g2 : z * 2 ^ n < 2 ^ (k + n) := by
    rw [Int.pow_add]
    exact Int.mul_lt_mul_of_pos_right h1.1 hn
  have g3 := two_lt (Int.lt_of_le_of_lt g1 h2.1)
  have g4 := two_lt (Int.lt_of_le_of_lt (h2.2.resolve_left hm) g2)
  omega
theorem shift_small {a : Int} {n : Nat} (ha : a < 4294967296 ^ 400) (h0 : 0 ≤ a) (hn : n ≤ 20001) : a * 2 ^ n < big3 := by
  have h1 : (2 : Int) ^ n ≤ 4294967296 ^ 626 := by rw [pow_two]; exact two_mono (by omega)
  have h2 : a * 2 ^ n ≤ 4294967296 ^ 400 * 4294967296 ^ 626 := Int.mul_le_mul (Int.le_of_lt ha) h1 (Int.le_of_lt (two_pos n)) (Int.le_of_lt (pow_pos _))
  rw [← Int.pow_add] at h2
  have h3 : (4294967296 : Int) ^ 1027 ≤ 4294967296 ^ 3000 := pow_mono (by decide)
  have h4 : (4294967296 : Int) ^ 1027 = 4294967296 ^ (400 + 626) * 4294967296 := Int.pow_succ _ _
  have h5 := pow_pos (400 + 626)
  unfold big3
  generalize (4294967296 : Int) ^ 3000 = c3000 at *
  generalize (4294967296 : Int) ^ 1027 = c1027 at *
  generalize (4294967296 : Int) ^ (400 + 626) = c1026 at *
  omega
theorem sh_err {u : Value} {er z n : Int} {w : World} (h : PV w u er z) (he : er ≠ 0) : Calls Tryd.prog 11 #[u, .int .i64 n] w (RetSh w er 0 false) := by
  obtain ⟨l, h1, h2, h3, h4, h5⟩ := h
  have := ShiftErr_c u l n w h1 h3 (by rw [h4]; exact he)
  rwa [h4] at this
theorem sh_far {u : Value} {z n : Int} {w : World} (h : PV w u 0 z) (hn : n < -20000 ∨ 20000 < n) : Calls Tryd.prog 11 #[u, .int .i64 n] w (RetSh w 1 0 false) := by
  obtain ⟨l, h1, h2, h3, h4, h5⟩ := h
  exact ShiftFar_c u l n w h1 h3 h4 hn
theorem sh_up {u : Value} {z : Int} {w : World} (h : PV w u 0 z) (n : Nat) (hn : n ≤ 20000) : Calls Tryd.prog 11 #[u, .int .i64 n] w (RetSh w 0 (z * 2 ^ n) false) := by
  obtain ⟨l, h1, h2, h3, h4, h5⟩ := h
  have := ShiftUp_c u l n w h1 h2 h4 hn
  rwa [h5] at this
theorem sh_down {u : Value} {z : Int} {w : World} (h : PV w u 0 z) (n : Nat) (h0 : 0 < n) (hn : n ≤ 20000) (hT : TabD w) : Calls Tryd.prog 11 #[u, .int .i64 (-(n : Int))] w (RetSh w 0 (z / 2 ^ n) (decide (z % 2 ^ n ≠ 0))) := by
  obtain ⟨l, h1, h2, h3, h4, h5⟩ := h
  have := ShiftDown_c u l n w h1 h2 h4 hn h0 hT
  rwa [h5] at this
theorem sh_back {u : Value} {z : Int} {w : World} (n : Nat) (h : PV w u 0 (z * 2 ^ n)) (hn : n ≤ 20000) (hT : TabD w) : Calls Tryd.prog 11 #[u, .int .i64 (-(n : Int))] w (RetSh w 0 z false) := by
  by_cases h0 : n = 0
  · subst h0
    have := sh_up h 0 (by omega)
    simpa using this
  · have := sh_down h n (by omega) hn hT
    rw [Int.mul_ediv_cancel _ (by have := two_pos n; omega), Int.mul_emod_left] at this
    simpa using this
theorem bits_p {u : Value} {er z : Int} {w : World} (h : PV w u er z) : Calls Tryd.prog 10 #[u] w (RetBits w er z) := by
  obtain ⟨l, h1, h2, h3, h4, h5⟩ := h
  have := Bits_c u l w h1 h3 h2
  rwa [h4, h5] at this
end NK
end Go.Proofs.YtnpeokgjfnobmaaDoor

/-
  Package dyad: the bounds, is it zero, its form, Check.
-/
namespace Go.Proofs.YtnpeokgjfnobmaaDoor
set_option linter.unusedVariables false
set_option linter.unusedSimpArgs false
open Go.RowKit
set_option linter.unusedVariables false
namespace DC
open L NC
open Z (Nz Tz cmpv)
theorem isExp_c (x : Int) (w : World) : Calls Tryd.prog 71 #[.int .i64 x] w (fun e w' => e = .returned (.bool (decide (-10000 ≤ x ∧ x ≤ 10000))) ∧ w = w') := by
  by_cases h1 : -10000 ≤ x
  · by_cases h2 : x ≤ 10000
    · have e : decide (-10000 ≤ x ∧ x ≤ 10000) = true := by simp [h1, h2]
      rw [e]
      clear e
      go_enter Tryd.func71, Tryd.ntmps71
      go_wp2
      go_ret
      exact ⟨ret_bool (by simp), rfl⟩
    · have e : decide (-10000 ≤ x ∧ x ≤ 10000) = false := by simp [h1, h2]
      rw [e]
      clear e
      go_enter Tryd.func71, Tryd.ntmps71
      go_wp2
      go_ret
      exact ⟨ret_bool (by simp), rfl⟩
  · have e : decide (-10000 ≤ x ∧ x ≤ 10000) = false := by simp [h1]
    rw [e]
    clear e
    go_enter Tryd.func71, Tryd.ntmps71
    go_wp2
    go_ret
    exact ⟨ret_bool (by simp), rfl⟩
/-- a plain value; the world only grew -/
def RetB (w : World) (v : Value) (e : Ending) (w' : World) : Prop := e = .returned v ∧ Below w.heap.size w w'
theorem dcell {W w1 : World} (hb : Below W.heap.size W w1) : (∀ b o, b < W.heap.size → w1.cell? ⟨b, o, none⟩ = W.cell? ⟨b, o, none⟩) ∧ (∀ b o, b < W.heap.size → w1.frozen? ⟨b, o, none⟩ = W.frozen? ⟨b, o, none⟩) :=
  ⟨fun b o h => hb.cell (p := ⟨b, o, none⟩) h, fun b o h => hb.frozen (p := ⟨b, o, none⟩) h⟩
theorem isZero_c (b : Bool) (A : Option Addr) (n c : Nat) (x : Int) (w : World) : Calls Tryd.prog 79 #[.agg #[.bool b, .slice A n c, .int .i64 x]] w (RetB w (.bool (decide (n = 0)))) := by
  go_enter Tryd.func79, Tryd.ntmps79
  go_wp2
  go_ret
  exact ⟨ret_bool (by by_cases h : n = 0 <;> simp [h]), (Below.refl _ _).alloc (Nat.le_refl _) _⟩
/-- its form: is it normal? -/
def nrm (b : Bool) (l : List Int) (x : Int) : Bool := if l = [] then !b && decide (x = 0) else decide (chk l = 0) && decide (lv l % 2 = 1)
theorem lv_odd {l : List Int} : lv l % 2 = l.getD 0 0 % 2 := by
  cases l with
  | nil => rfl
  | cons a t => unfold lv; simp only [List.getD_cons_zero]; omega
theorem isNormal_c (b : Bool) (A : Option Addr) (n c : Nat) (x : Int) (l : List Int) (w : World) (hs : Sl .u32 w (.slice A n c) l) (Ll : Lim l) (hl : l.length ≤ 9223372036854775807) :
    Calls Tryd.prog 72 #[.agg #[.bool b, .slice A n c, .int .i64 x]] w (RetB w (.bool (nrm b l x))) := by
  obtain ⟨en, hc⟩ := hs.len_
  obtain ⟨r, hr⟩ : ∃ r, nrm b l x = r := ⟨_, rfl⟩
  rw [hr]
  have IZ : Hid (∀ W, Calls Tryd.prog 79 #[.agg #[.bool b, .slice A n c, .int .i64 x]] W (RetB W (.bool (decide (n = 0))))) := fun W => isZero_c b A n c x W
  have CH : Hid (∀ W, Below w.heap.size w W → Calls Tryd.prog 51 #[.slice A n c] W (fun e w' => e = .returned (.int .i64 (chk l)) ∧ W = w')) := fun W hW => Check_c _ l W (hs.below hW) hl
  by_cases h0 : l = []
  · subst h0
    obtain rfl : n = 0 := en
    have HR : Hid (r = (!b && decide (x = 0))) := by rw [← hr]; rfl
    clear hr CH hs hl Ll
    cases b
    · go_enter Tryd.func72, Tryd.ntmps72
      go_wp2_with (first | (go_at_call 79; (with_reducible refine (IZ.out _).mono ?_); rintro e w1 ⟨rfl, hb⟩ ; obtain ⟨hc1, hf1⟩ := dcell hb))
      go_ret
      exact ⟨ret_bool (by rw [HR.out]; by_cases h : x = 0 <;> simp [h]), ((Below.refl _ _).alloc (Nat.le_refl _) _).trans (hb.mono (by simp))⟩
    · go_enter Tryd.func72, Tryd.ntmps72
      go_wp2_with (first | (go_at_call 79; (with_reducible refine (IZ.out _).mono ?_); rintro e w1 ⟨rfl, hb⟩ ; obtain ⟨hc1, hf1⟩ := dcell hb))
      go_ret
      exact ⟨ret_bool (by rw [HR.out]; rfl), ((Below.refl _ _).alloc (Nat.le_refl _) _).trans (hb.mono (by simp))⟩
  · have hn0 : n ≠ 0 := by rw [en]; intro h; exact h0 (List.length_eq_zero_iff.1 h)
    have e0 : decide (n = 0) = false := by simp [hn0]
    have HR : Hid (r = (decide (chk l = 0) && decide (lv l % 2 = 1))) := by rw [← hr]; unfold nrm; rw [if_neg h0]; rfl
    obtain ⟨q, hq⟩ : ∃ q, chk l = q := ⟨_, rfl⟩
    rw [hq] at CH HR
    obtain ⟨ad, c', e, hc', hb', hcell⟩ := hs.at_ 0 (by rw [← en]; omega)
    injection e with e1 e2 e3
    subst e1
    clear e2 e3 hc' c'
    obtain ⟨z, hz⟩ : ∃ z, l.getD 0 0 = z := ⟨_, rfl⟩
    have HO := Lib.hid (lv_odd (l := l))
    rw [hz] at hcell HO
    have bz := Ll.at_ 0
    rw [hz] at bz
    clear hr hs h0 hl Ll hz en
    rw [show ad.add 0 = ad from rfl] at hcell
    have KC : Hid (∀ W, Below w.heap.size w W → W.cell? ad = some (.int .u32 z)) := fun W hW => (hW.cell hb').trans hcell
    have D0 : Below w.heap.size w (w.alloc (.cells #[.bool b, .slice (some ad) n c, .int .i64 x] 48)) := (Below.refl _ _).alloc (Nat.le_refl _) _
    have D0 := Lib.hid D0
    have HQ := Lib.hid hq
    clear hq hcell hb'
    by_cases h1 : q = 0
    · subst h1
      go_enter Tryd.func72, Tryd.ntmps72
      go_wp2_with (first | (go_at_call 79; (with_reducible refine (IZ.out _).mono ?_); rintro e w1 ⟨rfl, hb⟩ ; obtain ⟨hc1, hf1⟩ := dcell hb; have D1 := D0.out.trans (hb.mono D0.out.size); have hca := KC.out _ D1; have D1 := Lib.hid D1) | (go_at_call 51; (with_reducible refine (CH.out _ D1.out).mono ?_); rintro e w' ⟨rfl, rfl⟩))
      go_ret
      exact ⟨ret_bool (by rw [HR.out, HO.out]; rfl), D1.out⟩
    · have h2 : (q == 0) = false := by simp [h1]
      have h3 : decide (q = 0) = false := by simp [h1]
      rw [h3] at HR
      clear h3
      go_enter Tryd.func72, Tryd.ntmps72
      go_wp2_with (first | (go_at_call 79; (with_reducible refine (IZ.out _).mono ?_); rintro e w1 ⟨rfl, hb⟩ ; obtain ⟨hc1, hf1⟩ := dcell hb; have D1 := Lib.hid (D0.out.trans (hb.mono D0.out.size))) | (go_at_call 51; (with_reducible refine (CH.out _ D1.out).mono ?_); rintro e w' ⟨rfl, rfl⟩))
      go_ret
      exact ⟨ret_bool (by rw [HR.out]; rfl), D1.out⟩
/-- what Check tells -/
def dchk (b : Bool) (l : List Int) (x : Int) : Int := if 400 < l.length ∨ ¬ (-10000 ≤ x ∧ x ≤ 10000) then 2 else if nrm b l x = true then 0 else 3
theorem Check_c (b : Bool) (A : Option Addr) (n c : Nat) (x : Int) (l : List Int) (w : World) (hs : Sl .u32 w (.slice A n c) l) (Ll : Lim l) (hl : l.length ≤ 9223372036854775807) :
    Calls Tryd.prog 28 #[.agg #[.bool b, .slice A n c, .int .i64 x]] w (RetB w (.int .i64 (dchk b l x))) := by
  obtain ⟨en, hc⟩ := hs.len_
  obtain ⟨r, hr⟩ : ∃ r, dchk b l x = r := ⟨_, rfl⟩
  rw [hr]
  have IE : Hid (∀ W, Calls Tryd.prog 71 #[.int .i64 x] W (fun e w' => e = .returned (.bool (decide (-10000 ≤ x ∧ x ≤ 10000))) ∧ W = w')) := fun W => isExp_c x W
  have IN : Hid (∀ W, Below w.heap.size w W → Calls Tryd.prog 72 #[.agg #[.bool b, .slice A n c, .int .i64 x]] W (RetB W (.bool (nrm b l x)))) := fun W hW => isNormal_c b A n c x l W (hs.below hW) Ll hl
  have D0 : Below w.heap.size w (w.alloc (.cells #[.bool b, .slice A n c, .int .i64 x] 48)) := (Below.refl _ _).alloc (Nat.le_refl _) _
  have D0 := Lib.hid D0
  have HR := Lib.hid hr
  have EN := Lib.hid en
  have hn : (n : Int) ≤ 9223372036854775807 := by omega
  clear hr hs en hl Ll hc
  by_cases h1 : (400 : Int) < n
  · go_enter Tryd.func28, Tryd.ntmps28
    go_wp2
    go_ret
    exact ⟨ret_int (by rw [← HR.out]; unfold dchk; rw [if_pos (.inl (by rw [← EN.out]; omega))]), D0.out⟩
  · by_cases h2 : -10000 ≤ x ∧ x ≤ 10000
    · have e2 : decide (-10000 ≤ x ∧ x ≤ 10000) = true := decide_eq_true h2
      rw [e2] at IE
      have H3 : Hid (r = if nrm b l x = true then 0 else 3) := by
        show _ = _
        rw [← HR.out]; unfold dchk; rw [if_neg]
        intro h; rcases h with h | h
        · rw [← EN.out] at h; omega
        · exact h h2
      clear h2 e2 HR
      generalize nrm b l x = q at *
      cases q
      · go_enter Tryd.func28, Tryd.ntmps28
        go_wp2_with (first | (go_at_call 71; (with_reducible refine (IE.out _).mono ?_); rintro e w' ⟨rfl, rfl⟩) | (go_at_call 72; (with_reducible refine (IN.out _ D0.out).mono ?_); rintro e w1 ⟨rfl, hb⟩))
        go_ret
        exact ⟨ret_int (by rw [H3.out]; rfl), D0.out.trans (hb.mono D0.out.size)⟩
      · go_enter Tryd.func28, Tryd.ntmps28
        go_wp2_with (first | (go_at_call 71; (with_reducible refine (IE.out _).mono ?_); rintro e w' ⟨rfl, rfl⟩) | (go_at_call 72; (with_reducible refine (IN.out _ D0.out).mono ?_); rintro e w1 ⟨rfl, hb⟩))
        go_ret
        exact ⟨ret_int (by rw [H3.out]; rfl), D0.out.trans (hb.mono D0.out.size)⟩
    · have e2 : decide (-10000 ≤ x ∧ x ≤ 10000) = false := decide_eq_false h2
      rw [e2] at IE
      have H2 := Lib.hid h2
      clear h2 e2
      go_enter Tryd.func28, Tryd.ntmps28
      go_wp2_with (first | (go_at_call 71; (with_reducible refine (IE.out _).mono ?_); rintro e w' ⟨rfl, rfl⟩))
      go_ret
      exact ⟨ret_int (by rw [← HR.out]; unfold dchk; rw [if_pos (.inr H2.out)]), D0.out⟩
/-- limbs whose lowest 1 lies in limb k -/
theorem low_form {l : List Int} {k t : Nat} {x m : Int} (hk : k < l.length) (hz : lv (l.take k) = 0) (hx : l.getD k 0 = x) (ht : t < 32) (hm : x = 2 ^ t * (2 * m + 1)) : ∃ o : Int, lv l = o * 2 ^ (32 * k + t) ∧ o % 2 = 1 := by
  have h := lv_split l k hk
  rw [hz, hx, hm] at h
  have e : (4294967296 : Int) = 2 ^ t * (2 * 2 ^ (31 - t)) := by
    rw [← Int.mul_assoc, Int.mul_comm (2 ^ t) 2, Int.mul_assoc, ← Int.pow_add, show t + (31 - t) = 31 by omega]; decide
  refine ⟨2 * (m + 2 ^ (31 - t) * lv (l.drop (k + 1))) + 1, ?_, by omega⟩
  rw [h, pow_two, Int.pow_add]
  generalize lv (l.drop (k + 1)) = D
  have e3 : 2 ^ t * (2 * m + 1) + 4294967296 * D = 2 ^ t * (2 * (m + 2 ^ (31 - t) * D) + 1) := by
    have : 4294967296 * D = 2 ^ t * (2 * 2 ^ (31 - t)) * D := by rw [← e]
    rw [this]; grind
  rw [e3]; grind
theorem lowZeros_c (v : Value) (l : List Int) (o : Int) (t : Nat) (w : World) (hs : Sl .u32 w v l) (Ll : Lim l) (hl : l.length ≤ 1000000) (ho : lv l = o * 2 ^ t) (hoo : o % 2 = 1) (hT : TabD w) :
    Calls Tryd.prog 93 #[v] w fun e w' => e = .returned (.int .i64 t) ∧ w = w' := by
  obtain ⟨A, c, rfl, hc⟩ := hs.form
  have HS := Lib.hid hs
  have LL := Lib.hid Ll
  have HT := Lib.hid hT
  obtain ⟨x, ex⟩ : ∃ x, l.length = x := ⟨_, rfl⟩
  have HN : Hid (lv l ≠ 0) := by
    show _ ≠ _
    rw [ho]; exact Int.mul_ne_zero (odd_ne hoo) (Int.ne_of_gt (two_pos' t))
  have HO : Hid (∀ (p : Int) (j : Nat), lv l = p * 2 ^ j → p % 2 = 1 → j = t) := fun p j h1 h2 => (odd_unique (h1.symm.trans ho) h2 hoo).2
  rw [ex] at hc hl HS ⊢
  have EX := Lib.hid ex
  obtain ⟨T, hT'⟩ : ∃ T : Int, (t : Int) = T := ⟨_, rfl⟩
  have ET := Lib.hid hT'
  rw [hT']
  clear hs Ll ex hT ho hoo hT'
  go_enter Tryd.func93, Tryd.ntmps93
  go_wp2
  go_loop [3] (fun i => ∃ k : Nat, k < x ∧ i = .int .i64 k ∧ Hid (lv (l.take k) = 0)) (fun i => x - (intOf i).toNat)
  case atStart => 
    refine ⟨0, ?_, rfl, by show lv _ = 0; simp [lv]⟩
    rcases Nat.eq_zero_or_pos x with h | h
    · exfalso
      have h1 := EX.out
      rw [h] at h1
      rw [List.length_eq_zero_iff.1 h1] at HN
      exact HN.out rfl
    · exact h
  case round =>
    obtain ⟨k, hkx, rfl, hz⟩ := hrel
    obtain ⟨ad, c', e, hc', hb, hcell⟩ := HS.out.at_ k (by rw [EX.out]; exact hkx)
    injection e with e1 e2 e3
    subst e1
    clear e2 e3 hc' c' hb
    obtain ⟨q, hq⟩ : ∃ q, l.getD k 0 = q := ⟨_, rfl⟩
    have bq := LL.out.at_ k
    rw [hq] at hcell bq
    by_cases h0 : q = 0
    · have h1 : (q == 0) = true := by simp [h0]
      have HZ2 : Hid (lv (l.take (k + 1)) = 0) := by show lv _ = 0; rw [lv_take_succ, hq, h0, hz.out]; simp
      have hk1 : k + 1 < x := by
        rcases (by omega : k + 1 < x ∨ k + 1 = x) with h | h
        · exact h
        · exfalso
          have := HZ2.out
          rw [h, ← EX.out, List.take_length] at this
          exact HN.out this
      clear h0 hq
      go_wp2
      go_round
      case rel => exact ⟨k + 1, hk1, by simp, HZ2.out⟩
      case measure => simp [intOf]; omega
    · have h1 : (q == 0) = false := by simp [h0]
      obtain ⟨t', ht, ⟨m, hm⟩, TZ⟩ := tz_c q w (by omega) bq.2 HT.out
      obtain ⟨p, hp1, hp2⟩ := low_form (by rw [EX.out]; exact hkx) hz.out hq ht hm
      have hj := HO.out p _ hp1 hp2
      have TZ := Lib.hid TZ
      have HJ := Lib.hid hj
      clear h0 hq hm hp1 hp2 hj
      go_wp2_with (first | (go_at_call 83; (with_reducible refine (TZ.out).mono ?_); rintro e w' ⟨rfl, rfl⟩))
      go_ret
      refine ⟨ret_int ?_, rfl⟩
      rw [← ET.out, ← HJ.out]
      omega
end DC
end Go.Proofs.YtnpeokgjfnobmaaDoor

/-
  Package dyad: finish.
-/
namespace Go.Proofs.YtnpeokgjfnobmaaDoor
set_option linter.unusedVariables false
set_option linter.unusedSimpArgs false
open Go.RowKit
set_option linter.unusedVariables false
namespace DC
open L NC NK
open Z (Nz Tz cmpv)
def sgm (b : Bool) (z : Int) : Int := if b then -z else z
/-- a Dyad in its form: sign, limbs, exponent -/
def GV (w : World) (b : Bool) (A : Option Addr) (n c : Nat) (x : Int) (d : Dy) : Prop :=
  NV w (.slice A n c) (d.m.natAbs : Int) ∧ b = decide (d.m < 0) ∧ x = d.x ∧ d.er = 0 ∧ can d.m d.x ∧ inb d.m d.x
/-- the result of a call: a Dyad in its form, and an error -/
def RetD (w : World) (r : Re) (e : Ending) (w' : World) : Prop :=
  ∃ b A n c x, e = .returned (.tuple #[.agg #[.bool b, .slice A n c, .int .i64 x], .int .i64 r.e]) ∧ GV w' b A n c x r.d ∧ Below w.heap.size w w'
theorem GV.zero (w : World) : GV w false none 0 0 0 dz := ⟨NV.nil _ _ _, rfl, rfl, rfl, .inl ⟨rfl, rfl⟩, by decide +kernel⟩
theorem GV.below {w w' : World} {b A n c x d} (h : GV w b A n c x d) (hb : Below w.heap.size w w') : GV w' b A n c x d := ⟨h.1.below hb, h.2⟩
theorem RetD.none {w w' : World} {er : Int} (hb : Below w.heap.size w w') : RetD w ⟨er, dz⟩ (.returned (.tuple #[.agg #[.bool false, .slice none 0 0, .int .i64 0], .int .i64 er])) w' := ⟨_, _, _, _, _, rfl, GV.zero _, hb⟩
theorem fin_sg {b : Bool} {z o x : Int} {k : Nat} (h : z = o * 2 ^ k) (ho : o % 2 = 1) : fin (sgm b z) x = if inb (sgm b o) (x + k) then ⟨0, 0, sgm b o, x + k⟩ else ⟨2, dz⟩ := by
  cases b
  · exact fin_of h ho
  · exact fin_of (m := -z) (o := -o) (by rw [Int.neg_mul, ← h]) (by omega)
theorem nv_set {w : World} {v : Value} {z : Int} {p : Addr} {u : Value} (h : NV w v z) (hu : w.cell? p = some u) (hk : ∀ z, u ≠ .int .u32 z) (x : Value) : NV (w.setCell p x) v z := by
  obtain ⟨L, h1, h2⟩ := h
  exact ⟨L, h1.setCell hu hk x, h2⟩
theorem Blk3 {w : World} {B : Nat} {T : TypeId} {u0 u1 u2 : Value} (h : Blk w B T #[u0, u1, u2]) (v0 v1 v2 : Value) :
    Blk (((w.setCell ⟨B, 0, none⟩ v0).setCell ⟨B, 1, none⟩ v1).setCell ⟨B, 2, none⟩ v2) B T #[v0, v1, v2] := by
  simpa using ((h.set_ 0 v0).set_ 1 v1).set_ 2 v2
/-- a Dyad stored in the cell of the result -/
theorem GV.set3 {w1 : World} {d : Dy} {b b0 : Bool} {A A0 : Option Addr} {n c n0 c0 : Nat} {x x0 : Int} {B : Nat} (hv : GV w1 b A n c x d)
    (hblk : Blk w1 B 48 #[.bool b0, .slice A0 n0 c0, .int .i64 x0]) (v0 v1 v2 : Value) (k0 : ∀ z, v0 ≠ .int .u32 z) (k1 : ∀ z, v1 ≠ .int .u32 z) :
    GV (((w1.setCell ⟨B, 0, none⟩ v0).setCell ⟨B, 1, none⟩ v1).setCell ⟨B, 2, none⟩ v2) b A n c x d := by
  obtain ⟨h1, h2⟩ := hv
  have s1 := nv_set h1 (hblk.at_ 0 rfl) (fun z h => by cases h) v0
  have B1 := hblk.set_ 0 v0
  have s2 := nv_set s1 (u := .slice A0 n0 c0) (B1.at_ 1 (by simp)) (fun z h => by cases h) v1
  have B2 := B1.set_ 1 v1
  exact ⟨nv_set s2 (u := .int .i64 x0) (B2.at_ 2 (by simp)) (fun z h => by cases h) v2, h2⟩
theorem below3 {w w1 : World} {B : Nat} (hb : Below w.heap.size w w1) (hB : w.heap.size ≤ B) (v0 v1 v2 : Value) : Below w.heap.size w (((w1.setCell ⟨B, 0, none⟩ v0).setCell ⟨B, 1, none⟩ v1).setCell ⟨B, 2, none⟩ v2) :=
  ((hb.setCell hB _).setCell hB _).setCell hB _
theorem sh_dn {u : Value} {z : Int} {w : World} (h : PV w u 0 z) (n : Nat) (hn : n ≤ 20000) (hT : TabD w) : ∃ b, Calls Tryd.prog 11 #[u, .int .i64 (-(n : Int))] w (RetSh w 0 (z / 2 ^ n) b) := by
  rcases Nat.eq_zero_or_pos n with rfl | h0
  · have := sh_up h 0 (by omega)
    simp only [Int.pow_zero, Int.mul_one] at this
    refine ⟨false, ?_⟩
    simpa using this
  · exact ⟨_, sh_down h n h0 hn hT⟩
theorem odd_small {o : Int} {t : Nat} {z : Int} (ho : z = o * 2 ^ t) (h0 : 0 < z) : 0 < o ∧ o ≤ z := by
  have hp := two_pos' t
  have h1 : 0 < o := by
    rcases Int.lt_or_le 0 o with h | h
    · exact h
    · have := Int.mul_nonpos_of_nonpos_of_nonneg h (Int.le_of_lt hp)
      omega
  refine ⟨h1, ?_⟩
  have := Int.mul_le_mul_of_nonneg_left (show (1 : Int) ≤ 2 ^ t by omega) (Int.le_of_lt h1)
  omega
theorem tz_small {o : Int} {t : Nat} {z : Int} (ho : z = o * 2 ^ t) (h0 : 0 < z) (hz : z < 4294967296 ^ 400) : t ≤ 12800 := by
  have h1 := odd_small ho h0
  have h2 := Int.mul_le_mul_of_nonneg_right (show (1 : Int) ≤ o by omega) (Int.le_of_lt (two_pos' t))
  have h3 : (2 : Int) ^ t < 4294967296 ^ 400 := by omega
  rw [pow_two] at h3
  have := two_lt h3
  omega
theorem finish_0 (b : Bool) (A : Option Addr) (c : Nat) (x : Int) (w : World) :
    Calls Tryd.prog 69 #[.bool b, .slice A 0 c, .int .i64 x] w (RetD w ⟨0, dz⟩) := by
  go_enter Tryd.func69, Tryd.ntmps69
  go_wp2
  exact bodyPost_ret (v := .tuple #[.agg #[.bool false, .slice none 0 0, .int .i64 0], .int .i64 0]) (by simp [results, Tryd.results69, go_sem]) rfl (RetD.none ((Below.refl _ _).alloc (Nat.le_refl _) _))
theorem finish_c (b : Bool) (A : Option Addr) (n c : Nat) (x z o : Int) (t : Nat) (w : World) (hv : NV w (.slice A n c) z) (hz : z < big3) (hx : -50000 ≤ x ∧ x ≤ 50000)
    (ho : z = o * 2 ^ t) (hoo : o % 2 = 1) (hz2 : z < 4294967296 ^ 400 ∨ z % 2 = 1) (hT : TabD w) :
    Calls Tryd.prog 69 #[.bool b, .slice A n c, .int .i64 x] w (RetD w (fin (sgm b z) x)) := by
  rw [fin_sg ho hoo]
  have hp := hv.pv hz
  obtain ⟨l, l1, l2, l3, l4⟩ := hv
  have h0 : 0 < z := by
    have h1 := lv_nonneg l2
    have h2 : z ≠ 0 := by rw [ho]; exact Int.mul_ne_zero (odd_ne hoo) (Int.ne_of_gt (two_pos' t))
    omega
  have hl3 : l.length ≤ 3000 := len_le l2 l3 (by rw [l4]; exact hz)
  have en := l1.len_.1
  have hn0 : n ≠ 0 := by
    intro h
    rw [h] at en
    have := List.length_eq_zero_iff.1 en.symm
    rw [this] at l4
    simp [lv] at l4
    omega
  have hn1 : ((n : Int) == 0) = false := by simp [hn0]
  have ws := odd_small ho h0
  obtain ⟨r0, hr0⟩ : ∃ r0 : Obj, r0 = .cells #[.bool false, .slice none 0 0, .int .i64 0] 48 := ⟨_, rfl⟩
  have D0 : Below w.heap.size w (w.alloc (.cells #[.bool false, .slice none 0 0, .int .i64 0] 48)) := (Below.refl _ _).alloc (Nat.le_refl _) _
  have LZ : Hid (∀ W, Below w.heap.size w W → Calls Tryd.prog 93 #[.slice A n c] W fun e w' => e = .returned (.int .i64 t) ∧ W = w') := fun W hW =>
    lowZeros_c _ l o t W (l1.below hW) l2 (by omega) (by rw [l4]; exact ho) hoo (hT.below hW)
  have IE : Hid (∀ W, Calls Tryd.prog 71 #[.int .i64 (x + t)] W (fun e w' => e = .returned (.bool (decide (-10000 ≤ x + t ∧ x + t ≤ 10000))) ∧ W = w')) := fun W => isExp_c (x + t) W
  have R0 := Blk.new w 48 #[.bool false, .slice none 0 0, .int .i64 0]
  have R0 := Lib.hid R0
  have D0 := Lib.hid D0
  by_cases hs : z < 4294967296 ^ 400
  · have ht := tz_small ho h0 hs
    rw [show erz z = 0 from if_pos hs] at hp
    have SH : Hid (∀ W, Below w.heap.size w W → ∃ bl, Calls Tryd.prog 11 #[.slice A n c, .int .i64 (-(t : Int))] W (RetSh W 0 o bl)) := fun W hW => by
      obtain ⟨bl, h⟩ := sh_dn (hp.below hW) t (by omega) (hT.below hW)
      rw [ho, Int.mul_ediv_cancel _ (Int.ne_of_gt (two_pos' t))] at h
      exact ⟨bl, h⟩
    have i1 : IntKind.i64.wrap (-(t : Int)) = -(t : Int) := IntWalk.i64_in _ (by omega)
    have i2 : IntKind.i64.wrap (x + t) = x + t := IntWalk.i64_in _ (by omega)
    obtain ⟨T, eT⟩ : ∃ T : Int, (t : Int) = T := ⟨_, rfl⟩
    rw [eT] at LZ SH i1 i2 IE ⊢
    have hs2 : o < 4294967296 ^ 400 := by omega
    have WS := Lib.hid ws
    have OO := Lib.hid hoo
    have S2 := Lib.hid hs2
    clear hs2 hp l1 l2 l3 l4 hs hz2 hz h0 hl3 en hn0 ht hT ho hoo eT hx hr0 ws
    by_cases hin : -10000 ≤ x + T ∧ x + T ≤ 10000
    · have hI : inb (sgm b o) (x + T) := by
        unfold inb sgm
        have a1 := WS.out
        have a2 := S2.out
        generalize (4294967296 : Int) ^ 400 = P at *
        cases b
        · exact ⟨a2, by simp; omega, hin⟩
        · exact ⟨by simp; omega, by simp; omega, hin⟩
      rw [if_pos hI]
      rw [decide_eq_true hin] at IE
      have HI := Lib.hid hI
      have HG : Hid (∀ (W : World) A' n' c', NV W (.slice A' n' c') o → GV W b A' n' c' (x + T) ⟨0, sgm b o, x + T⟩) := fun W A' n' c' h => by
        have a1 := WS.out
        refine ⟨?_, ?_, rfl, rfl, .inr ?_, HI.out⟩
        · show NV W _ ((sgm b o).natAbs : Int)
          rw [show ((sgm b o).natAbs : Int) = o by unfold sgm; cases b <;> simp <;> omega]; exact h
        · show b = decide (sgm b o < 0)
          unfold sgm; cases b <;> simp <;> omega
        · have := OO.out
          show sgm b o % 2 = 1
          unfold sgm; cases b <;> simp <;> omega
      clear hin hI
      go_enter Tryd.func69, Tryd.ntmps69
      go_wp2_with (first | (go_at_call 93; (with_reducible refine (LZ.out _ D0.out).mono ?_); rintro e w' ⟨rfl, rfl⟩) | (go_at_call 11; obtain ⟨bl, hsh⟩ := SH.out _ D0.out; (with_reducible refine hsh.mono ?_); rintro e w2 ⟨A2, n2, c2, rfl, hv2, hb2⟩; have D2 := Lib.hid (D0.out.trans (hb2.mono D0.out.size)); have R2 := R0.out.below hb2 R0.out.lt; have q0 := R2.at_ 0 rfl; have q1 := R2.at_ 1 rfl; have q2 := R2.at_ 2 rfl; have f0 := R2.frozen 0; have f1 := R2.frozen 1; have f2 := R2.frozen 2; have R2 := Lib.hid R2; have G2 := Lib.hid (HG.out _ _ _ _ hv2)) | (go_at_call 71; (with_reducible refine (IE.out _).mono ?_); rintro e w' ⟨rfl, rfl⟩))
      exact bodyPost_ret (v := .tuple #[.agg #[.bool b, .slice A2 n2 c2, .int .i64 (x + T)], .int .i64 0]) (by simp [results, Tryd.results69, go_sem, q0, q1, q2]) rfl
        ⟨_, _, _, _, _, rfl, G2.out.set3 R2.out _ _ _ (by intro z h; cases h) (by intro z h; cases h), below3 D2.out (Nat.le_refl _) _ _ _⟩
    · have hI : ¬ inb (sgm b o) (x + T) := fun h => hin ⟨h.2.2.1, h.2.2.2⟩
      rw [if_neg hI]
      rw [decide_eq_false hin] at IE
      clear hin hI
      go_enter Tryd.func69, Tryd.ntmps69
      go_wp2_with (first | (go_at_call 93; (with_reducible refine (LZ.out _ D0.out).mono ?_); rintro e w' ⟨rfl, rfl⟩) | (go_at_call 11; obtain ⟨bl, hsh⟩ := SH.out _ D0.out; (with_reducible refine hsh.mono ?_); rintro e w2 ⟨A2, n2, c2, rfl, hv2, hb2⟩; have D2 := Lib.hid (D0.out.trans (hb2.mono D0.out.size)); have R2 := R0.out.below hb2 R0.out.lt; have q0 := R2.at_ 0 rfl; have q1 := R2.at_ 1 rfl; have q2 := R2.at_ 2 rfl; have f0 := R2.frozen 0; have f1 := R2.frozen 1; have f2 := R2.frozen 2; have R2 := Lib.hid R2) | (go_at_call 71; (with_reducible refine (IE.out _).mono ?_); rintro e w' ⟨rfl, rfl⟩))
      exact bodyPost_ret (v := .tuple #[.agg #[.bool false, .slice none 0 0, .int .i64 0], .int .i64 2]) (by simp [results, Tryd.results69, go_sem, q0, q1, q2]) rfl
        (RetD.none (below3 D2.out (Nat.le_refl _) _ _ _))
  · have hodd : z % 2 = 1 := by rcases hz2 with h | h; exact absurd h hs; exact h
    obtain ⟨e1, e2⟩ := odd_unique (show z * 2 ^ 0 = o * 2 ^ t by rw [← ho]; simp) hodd hoo
    have hE : erz z = 2 := if_neg hs
    rw [hE] at hp
    have SH : Hid (∀ W, Below w.heap.size w W → Calls Tryd.prog 11 #[.slice A n c, .int .i64 0] W (RetSh W 2 0 false)) := fun W hW => sh_err (hp.below hW) (by decide)
    rw [← e2] at LZ
    have hI : ¬ inb (sgm b o) (x + t) := by
      intro h
      unfold inb sgm at h
      rw [← e1] at h
      generalize (4294967296 : Int) ^ 400 = P at *
      cases b
      · simp at h; omega
      · simp at h; omega
    rw [if_neg hI]
    have e3 : ((0 : Nat) : Int) = 0 := rfl
    rw [e3] at LZ
    clear hI hp l1 l2 l3 l4 hs hz2 hz h0 hl3 en hn0 hT ho hoo hx hr0 ws hodd e1 e2 hE IE e3
    go_enter Tryd.func69, Tryd.ntmps69
    go_wp2_with (first | (go_at_call 93; (with_reducible refine (LZ.out _ D0.out).mono ?_); rintro e w' ⟨rfl, rfl⟩) | (go_at_call 11; (with_reducible refine (SH.out _ D0.out).mono ?_); rintro e w2 ⟨A2, n2, c2, rfl, hv2, hb2⟩; have D2 := Lib.hid (D0.out.trans (hb2.mono D0.out.size)); have R2 := R0.out.below hb2 R0.out.lt; have q0 := R2.at_ 0 rfl; have q1 := R2.at_ 1 rfl; have q2 := R2.at_ 2 rfl; have f0 := R2.frozen 0; have f1 := R2.frozen 1; have f2 := R2.frozen 2; have R2 := Lib.hid R2))
    exact bodyPost_ret (v := .tuple #[.agg #[.bool false, .slice none 0 0, .int .i64 0], .int .i64 2]) (by simp [results, Tryd.results69, go_sem, q0, q1, q2]) rfl
        (RetD.none (below3 D2.out (Nat.le_refl _) _ _ _))
end DC
end Go.Proofs.YtnpeokgjfnobmaaDoor

/-
  Package nat: Of.
-/
namespace Go.Proofs.YtnpeokgjfnobmaaDoor
set_option linter.unusedVariables false
set_option linter.unusedSimpArgs false
open Go.RowKit
set_option linter.unusedVariables false
namespace NC
open L
open Z (Nz Tz cmpv)
theorem Of_c (n : Int) (w : World) (hn : 0 ≤ n ∧ n < 18446744073709551616) : Calls Tryd.prog 70 #[.int .u64 n] w (RetV w n) := by
  have hT := trim_c (some ⟨w.heap.size, 0, none⟩) 2 2 [n % 4294967296, n / 4294967296] (w.alloc (.cells #[.int .u32 (n % 4294967296), .int .u32 (n / 4294967296)] 56)) (Row.sl (L := [n % 4294967296, n / 4294967296]) (by
    have := Blk.new w 56 #[.int .u32 (n % 4294967296), .int .u32 (n / 4294967296)]
    exact this) 2 (by simp)) (by simp)
  have T := Lib.hid hT
  have hv : lv [n % 4294967296, n / 4294967296] = n := by simp [lv]; omega
  have hl : Lim [n % 4294967296, n / 4294967296] := by intro d hd; simp at hd; rcases hd with rfl | rfl <;> omega
  have HV := Lib.hid hv
  have HL := Lib.hid hl
  have HS : Hid (Sl .u32 (w.alloc (.cells #[.int .u32 (n % 4294967296), .int .u32 (n / 4294967296)] 56)) (.slice (some ⟨w.heap.size, 0, none⟩) 2 2) [n % 4294967296, n / 4294967296]) := Row.sl (L := [n % 4294967296, n / 4294967296]) (Blk.new w 56 #[.int .u32 (n % 4294967296), .int .u32 (n / 4294967296)]) 2 (by simp)
  clear hT hv hl
  go_enter Tryd.func70, Tryd.ntmps70
  go_wp2_with (first | (go_at_call 58; (with_reducible refine (T.out).mono ?_); rintro e w2 ⟨m, rfl, hm, hz, hv, rfl⟩))
  go_ret
  exact ⟨_, _, _, rfl, trimmed (L := [n % 4294967296, n / 4294967296]) HS.out hm HL.out hz hv HV.out, (Below.refl _ _).alloc (Nat.le_refl _) _⟩
end NC
end Go.Proofs.YtnpeokgjfnobmaaDoor

/-
  Package dyad: align, top, finishHalf.
-/
namespace Go.Proofs.YtnpeokgjfnobmaaDoor
set_option linter.unusedVariables false
set_option linter.unusedSimpArgs false
open Go.RowKit
set_option linter.unusedVariables false
namespace DC
open L NC NK
open Z (Nz Tz cmpv)
/-- the cells of a boxed Dyad -/
def BX (W : World) (g : Nat) (b : Bool) (A : Option Addr) (n c : Nat) (x : Int) : Prop :=
  W.cell? ⟨g, 0, none⟩ = some (.bool b) ∧ W.cell? ⟨g, 1, none⟩ = some (.slice A n c) ∧ W.cell? ⟨g, 2, none⟩ = some (.int .i64 x)
theorem BX.of {W : World} {g : Nat} {b : Bool} {A : Option Addr} {n c : Nat} {x : Int} (h : Blk W g 48 #[.bool b, .slice A n c, .int .i64 x]) : BX W g b A n c x :=
  ⟨h.at_ 0 rfl, h.at_ 1 rfl, h.at_ 2 rfl⟩
def dy (b : Bool) (A : Option Addr) (n c : Nat) (x : Int) : Value := .agg #[.bool b, .slice A n c, .int .i64 x]
/-- a number moved by bits, rounded down -/
def shq (m k : Int) : Int := if 0 ≤ k then m * 2 ^ k.toNat else m / 2 ^ (-k).toNat
theorem shq_up (m : Int) (k : Nat) : shq m k = m * 2 ^ k := by unfold shq; rw [if_pos (by omega)]; simp
theorem shq_one (m : Int) : shq m (-1) = m / 2 := by unfold shq; rw [if_neg (by omega)]; simp
theorem sh_any {u : Value} {z : Int} {w : World} (h : PV w u 0 z) (k : Int) (h1 : -20000 ≤ k) (h2 : k ≤ 20000) (hT : TabD w) : ∃ b, Calls Tryd.prog 11 #[u, .int .i64 k] w (RetSh w 0 (shq z k) b) := by
  by_cases h0 : 0 ≤ k
  · obtain ⟨n, rfl⟩ := Int.eq_ofNat_of_zero_le h0
    exact ⟨_, by rw [shq_up]; exact sh_up h n (by omega)⟩
  · obtain ⟨n, hn⟩ := Int.eq_ofNat_of_zero_le (show 0 ≤ -k by omega)
    obtain ⟨b, hb⟩ := sh_dn h n (by omega) hT
    refine ⟨b, ?_⟩
    rw [show k = -(n : Int) by omega]
    unfold shq
    rw [if_neg (by omega), show (- -(n : Int)).toNat = n by omega]
    exact hb
theorem GV.pv {w : World} {b A n c x d} (h : GV w b A n c x d) : PV w (.slice A n c) 0 (d.m.natAbs : Int) := by
  have hs : (d.m.natAbs : Int) < 4294967296 ^ 400 := by
    have h2 := h.2.2.2.2.2
    unfold inb at h2
    generalize (4294967296 : Int) ^ 400 = P at *
    omega
  have := h.1.pv (Int.lt_of_lt_of_le hs (by unfold big3; exact pow_mono (by decide)))
  rwa [show erz (d.m.natAbs : Int) = 0 from if_pos hs] at this
/-- two numbers -/
def RetA (w : World) (y z : Int) (e : Ending) (w' : World) : Prop := ∃ A n c A' n' c', e = .returned (.tuple #[.slice A n c, .slice A' n' c']) ∧ NV w' (.slice A n c) y ∧ NV w' (.slice A' n' c') z ∧ Below w.heap.size w w'
theorem align_c (b1 b2 : Bool) (A1 A2 : Option Addr) (n1 c1 n2 c2 : Nat) (x1 x2 : Int) (d1 d2 : Dy) (k : Int) (w : World) (h1 : GV w b1 A1 n1 c1 x1 d1) (h2 : GV w b2 A2 n2 c2 x2 d2)
    (k1 : -20000 ≤ d1.x - k ∧ d1.x - k ≤ 20000) (k2 : -20000 ≤ d2.x - k ∧ d2.x - k ≤ 20000) (k3 : -10000 ≤ k ∧ k ≤ 10001) (hT : TabD w) :
    Calls Tryd.prog 96 #[.agg #[.bool b1, .slice A1 n1 c1, .int .i64 x1], .agg #[.bool b2, .slice A2 n2 c2, .int .i64 x2], .int .i64 k] w (RetA w (shq d1.m.natAbs (d1.x - k)) (shq d2.m.natAbs (d2.x - k))) := by
  have e1 : x1 = d1.x := h1.2.2.1
  have e2 : x2 = d2.x := h2.2.2.1
  obtain ⟨-, -, y1, y2⟩ := h1.2.2.2.2.2
  obtain ⟨-, -, y3, y4⟩ := h2.2.2.2.2.2
  subst e1
  subst e2
  have N := new2 w 48 48 #[.bool b1, .slice A1 n1 c1, .int .i64 d1.x] #[.bool b2, .slice A2 n2 c2, .int .i64 d2.x] 0
  obtain ⟨N1, N2, NS, NB⟩ := N
  rw [World.drewN_zero] at N1 N2 NS NB
  have KB : Hid (∀ W, Below ((w.alloc (.cells #[.bool b1, .slice A1 n1 c1, .int .i64 d1.x] 48)).alloc (.cells #[.bool b2, .slice A2 n2 c2, .int .i64 d2.x] 48)).heap.size ((w.alloc (.cells #[.bool b1, .slice A1 n1 c1, .int .i64 d1.x] 48)).alloc (.cells #[.bool b2, .slice A2 n2 c2, .int .i64 d2.x] 48)) W → BX W w.heap.size b1 A1 n1 c1 d1.x ∧ BX W (w.heap.size + 1) b2 A2 n2 c2 d2.x) := fun W hW =>
    ⟨BX.of (N1.below hW N1.lt), BX.of (N2.below hW N2.lt)⟩
  have S1 : Hid (∀ W, Below w.heap.size w W → ∃ bl, Calls Tryd.prog 11 #[.slice A1 n1 c1, .int .i64 (d1.x - k)] W (RetSh W 0 (shq d1.m.natAbs (d1.x - k)) bl)) := fun W hW => sh_any (h1.pv.below hW) _ k1.1 k1.2 (hT.below hW)
  have S2 : Hid (∀ W, Below w.heap.size w W → ∃ bl, Calls Tryd.prog 11 #[.slice A2 n2 c2, .int .i64 (d2.x - k)] W (RetSh W 0 (shq d2.m.natAbs (d2.x - k)) bl)) := fun W hW => sh_any (h2.pv.below hW) _ k2.1 k2.2 (hT.below hW)
  have i1 : IntKind.i64.wrap (d1.x - k) = d1.x - k := IntWalk.i64_in _ (by omega)
  have i2 : IntKind.i64.wrap (d2.x - k) = d2.x - k := IntWalk.i64_in _ (by omega)
  have D0 := Lib.hid NB
  clear NB N1 N2 NS h1 h2 k1 k2 k3 hT y1 y2 y3 y4
  generalize shq d1.m.natAbs (d1.x - k) = z1 at *
  generalize shq d2.m.natAbs (d2.x - k) = z2 at *
  go_enter Tryd.func96, Tryd.ntmps96
  go_wp2_with (first
    | (go_at_call 11; obtain ⟨bl, hsh⟩ := S1.out _ D0.out; (with_reducible refine hsh.mono ?_); rintro e w2 ⟨A3, n3, c3, rfl, hv3, hb3⟩; obtain ⟨-, p0, p1, p2⟩ := KB.out _ hb3; have D2 := Lib.hid (D0.out.trans (hb3.mono D0.out.size)))
    | (go_at_call 11; obtain ⟨bl2, hsh⟩ := S2.out _ D2.out; (with_reducible refine hsh.mono ?_); rintro e w3 ⟨A4, n4, c4, rfl, hv4, hb4⟩))
  go_ret2
  exact ⟨_, _, _, _, _, _, rfl, hv3.below hb4, hv4, D2.out.trans (hb4.mono D2.out.size)⟩
def RetTop (w : World) (d : Dy) (e : Ending) (w' : World) : Prop :=
  ∃ k : Nat, e = .returned (.int .i64 (k + d.x)) ∧ k ≤ 12800 ∧ Hid ((d.m.natAbs : Int) < 2 ^ k ∧ (k = 0 ∨ 2 ^ (k - 1) ≤ (d.m.natAbs : Int))) ∧ Below w.heap.size w w'
theorem top_c (b : Bool) (A : Option Addr) (n c : Nat) (x : Int) (d : Dy) (w : World) (h : GV w b A n c x d) :
    Calls Tryd.prog 95 #[.agg #[.bool b, .slice A n c, .int .i64 x]] w (RetTop w d) := by
  have e1 : x = d.x := h.2.2.1
  obtain ⟨-, -, y1, y2⟩ := h.2.2.2.2.2
  subst e1
  have D0 : Below w.heap.size w (w.alloc (.cells #[.bool b, .slice A n c, .int .i64 d.x] 48)) := (Below.refl _ _).alloc (Nat.le_refl _) _
  have BT : Hid (∀ W, Below w.heap.size w W → Calls Tryd.prog 10 #[.slice A n c] W (RetBits W 0 d.m.natAbs)) := fun W hW => bits_p (h.pv.below hW)
  have D0 := Lib.hid D0
  have IB : Hid (∀ k : Nat, k ≤ 12800 → IntKind.i64.wrap ((k : Int) + d.x) = k + d.x) := fun k hk => IntWalk.i64_in _ (by omega)
  clear h y1 y2
  go_enter Tryd.func95, Tryd.ntmps95
  go_wp2_with (go_at_call 10; (with_reducible refine (BT.out _ D0.out).mono ?_); rintro e w2 ⟨k, rfl, hk, hk1, hk2, rfl⟩; have ib := IB.out k hk)
  go_ret
  exact ⟨k, rfl, hk, hk1.out (by first | trivial | rfl), D0.out⟩
/-- 2 s and 1, over 2^x -/
theorem fin_big {b : Bool} {z x : Int} (h : z % 2 = 1) (hz : ¬ z < 4294967296 ^ 400) : fin (sgm b z) x = ⟨2, dz⟩ := by
  rw [fin_sg (k := 0) (show z = z * 2 ^ 0 by simp) h, if_neg]
  intro hi
  unfold inb sgm at hi
  have hp : (0 : Int) < 4294967296 ^ 400 := pow_pos 400
  generalize (4294967296 : Int) ^ 400 = P at *
  cases b
  · simp at hi; omega
  · simp at hi; omega
theorem nv_erz {w : World} {v : Value} {s : Int} (h : NV w v s) (hs : s < big3) : 0 ≤ s := by
  obtain ⟨l, h1, h2, h3, h4⟩ := h
  rw [← h4]; exact lv_nonneg h2
theorem finish_any (b : Bool) (A : Option Addr) (n c : Nat) (x z : Int) (w : World) (hv : NV w (.slice A n c) z) (hz : z < big3) (hx : -50000 ≤ x ∧ x ≤ 50000) (hz2 : z < 4294967296 ^ 400 ∨ z % 2 = 1) (hT : TabD w) :
    Calls Tryd.prog 69 #[.bool b, .slice A n c, .int .i64 x] w (RetD w (fin (sgm b z) x)) := by
  by_cases h0 : z = 0
  · subst h0
    obtain rfl := NV.zero hv
    rw [show sgm b 0 = 0 by cases b <;> rfl, fin_zero]
    exact finish_0 b A c x w
  · obtain ⟨o, h1, h2⟩ := tz_spec h0
    exact finish_c b A n c x z o (tz z) w hv hz hx h1 h2 hz2 hT
/-- behind the allocation of the result's cell -/
theorem res0 (w : World) : ∃ W0, w.alloc (.cells #[.bool false, .slice none 0 0, .int .i64 0] 48) = W0 ∧ Below w.heap.size w W0 ∧ W0.heap.size = w.heap.size + 1 ∧
    (∀ W, Below W0.heap.size W0 W → Blk W w.heap.size 48 #[.bool false, .slice none 0 0, .int .i64 0]) :=
  ⟨_, rfl, (Below.refl _ _).alloc (Nat.le_refl _) _, by simp, fun W h => (Blk.new w _ _).below h (Blk.new w 48 #[.bool false, .slice none 0 0, .int .i64 0]).lt⟩
theorem finishHalf_c (b : Bool) (A : Option Addr) (n c : Nat) (x s : Int) (w : World) (hv : NV w (.slice A n c) s) (hs : s < big3) (hx : -50000 ≤ x ∧ x ≤ 50000) (hT : TabD w) :
    Calls Tryd.prog 109 #[.bool b, .slice A n c, .int .i64 x] w (RetD w (fin (sgm b (2 * s + 1)) x)) := by
  have s0 := nv_erz hv hs
  have hp := hv.pv hs
  obtain ⟨W0, hW0, D0, ZS, KB⟩ := res0 w
  have KB := Lib.hid KB
  have D0 := Lib.hid D0
  have SZ := Lib.hid ZS
  have HW0 := Lib.hid hW0
  by_cases h1 : s < 4294967296 ^ 400
  · rw [show erz s = 0 from if_pos h1] at hp
    have SH : Hid (∃ bl, Calls Tryd.prog 11 #[.slice A n c, .int .i64 1] W0 (RetSh W0 0 (2 * s) bl)) := by
      have := sh_up (hp.below D0.out) 1 (by omega)
      rw [show s * 2 ^ 1 = 2 * s by omega] at this
      exact ⟨_, this⟩
    have OF : Hid (∀ W, Calls Tryd.prog 70 #[.int .u64 1] W (RetV W 1)) := fun W => Of_c 1 W (by omega)
    have b3 : 2 * s < big3 := by
      have := shift_small h1 s0 (show 1 ≤ 20001 by omega)
      omega
    by_cases h2 : 2 * s < 4294967296 ^ 400
    · have AD : Hid (∀ W A1 n1 c1 A2 n2 c2, NV W (.slice A1 n1 c1) (2 * s) → NV W (.slice A2 n2 c2) 1 → Calls Tryd.prog 108 #[.slice A1 n1 c1, .slice A2 n2 c2] W (RetP W 0 (2 * s + 1))) := fun W A1 n1 c1 A2 n2 c2 g1 g2 => by
        have q1 := g1.pv b3
        rw [show erz (2 * s) = 0 from if_pos h2] at q1
        have q2 := g2.pv (small_big (by decide))
        rw [erz0 (by decide)] at q2
        exact Add_p q1 q2
      have FN : Hid (∀ W A1 n1 c1, Below W0.heap.size W0 W → NV W (.slice A1 n1 c1) (2 * s + 1) → Calls Tryd.prog 69 #[.bool b, .slice A1 n1 c1, .int .i64 x] W (RetD W (fin (sgm b (2 * s + 1)) x))) := fun W A1 n1 c1 hW g =>
        finish_any b A1 n1 c1 x _ W g (by
          have h3 : (4294967296 : Int) ^ 400 ≤ big3 := by unfold big3; exact pow_mono (by decide)
          have h4 := (big3_bds h2 (show (1 : Int) < 4294967296 ^ 400 from Int.lt_of_lt_of_le (show (1 : Int) < 4294967296 ^ 1 by decide) (pow_mono (by decide))) (by omega) (by omega)).1
          exact h4) hx (.inr (by omega)) ((hT.below D0.out).below hW)
      generalize fin (sgm b (2 * s + 1)) x = r at *
      clear hp h1 h2 b3 hv hs hx hT s0 hW0 ZS
      go_enter Tryd.func109, Tryd.ntmps109
      go_wp2_with (first
        | (go_at_call 11; rw [HW0.out]; obtain ⟨bl, hsh⟩ := SH.out; (with_reducible refine hsh.mono ?_); rintro e w2 ⟨A2, n2, c2, rfl, hv2, hb2⟩; have D2 := Lib.hid hb2)
        | (go_at_call 70; (with_reducible refine (OF.out _).mono ?_); rintro e w3 ⟨A3, n3, c3, rfl, hv3, hb3⟩; have hv2 := hv2.below hb3; have D3 := Lib.hid (D2.out.trans (hb3.mono D2.out.size)))
        | (go_at_call 108; (with_reducible refine (AD.out _ _ _ _ _ _ _ hv2 hv3).mono ?_); rintro e w4 ⟨A4, n4, c4, rfl, hp4, hv4, hb4⟩; have D4 := Lib.hid (D3.out.trans (hb4.mono D3.out.size)))
        | (go_at_call 69; (with_reducible refine (FN.out _ _ _ _ D4.out hv4).mono ?_); rintro e w5 ⟨bb, A5, n5, c5, x5, rfl, hv5, hb5⟩; have D5 := Lib.hid (D4.out.trans (hb5.mono D4.out.size)); have R2 := KB.out _ D5.out; have q0 := R2.at_ 0 rfl; have q1 := R2.at_ 1 rfl; have q2 := R2.at_ 2 rfl; have f0 := R2.frozen 0; have f1 := R2.frozen 1; have f2 := R2.frozen 2; have R2 := Lib.hid R2))
      exact bodyPost_ret (v := .tuple #[.agg #[.bool bb, .slice A5 n5 c5, .int .i64 x5], .int .i64 r.e]) (by simp [results, Tryd.results109, go_sem, q0, q1, q2]) rfl
        ⟨_, _, _, _, _, rfl, hv5.set3 R2.out _ _ _ (by intro z h; cases h) (by intro z h; cases h), below3 (D0.out.trans (D5.out.mono D0.out.size)) (Nat.le_refl _) _ _ _⟩
    · have AD : Hid (∀ W A1 n1 c1 A2 n2 c2, NV W (.slice A1 n1 c1) (2 * s) → NV W (.slice A2 n2 c2) 1 → Calls Tryd.prog 108 #[.slice A1 n1 c1, .slice A2 n2 c2] W (RetP W 2 0)) := fun W A1 n1 c1 A2 n2 c2 g1 g2 => by
        have q1 := g1.pv b3
        rw [show erz (2 * s) = 2 from if_neg h2] at q1
        have q2 := g2.pv (small_big (by decide))
        rw [erz0 (by decide)] at q2
        exact Add_p q1 q2
      rw [fin_big (by omega) (by omega)]
      clear hp h1 h2 b3 hv hs hx hT s0 hW0 ZS
      go_enter Tryd.func109, Tryd.ntmps109
      go_wp2_with (first
        | (go_at_call 11; rw [HW0.out]; obtain ⟨bl, hsh⟩ := SH.out; (with_reducible refine hsh.mono ?_); rintro e w2 ⟨A2, n2, c2, rfl, hv2, hb2⟩; have D2 := Lib.hid hb2)
        | (go_at_call 70; (with_reducible refine (OF.out _).mono ?_); rintro e w3 ⟨A3, n3, c3, rfl, hv3, hb3⟩; have hv2 := hv2.below hb3; have D3 := Lib.hid (D2.out.trans (hb3.mono D2.out.size)))
        | (go_at_call 108; (with_reducible refine (AD.out _ _ _ _ _ _ _ hv2 hv3).mono ?_); rintro e w4 ⟨A4, n4, c4, rfl, hp4, hv4, hb4⟩; have D5 := Lib.hid (D3.out.trans (hb4.mono D3.out.size)); have R2 := KB.out _ D5.out; have q0 := R2.at_ 0 rfl; have q1 := R2.at_ 1 rfl; have q2 := R2.at_ 2 rfl; have f0 := R2.frozen 0; have f1 := R2.frozen 1; have f2 := R2.frozen 2; have R2 := Lib.hid R2))
      exact bodyPost_ret (v := .tuple #[.agg #[.bool false, .slice none 0 0, .int .i64 0], .int .i64 2]) (by simp [results, Tryd.results109, go_sem, q0, q1, q2]) rfl
        (RetD.none (below3 (D0.out.trans (D5.out.mono D0.out.size)) (Nat.le_refl _) _ _ _))
  · rw [show erz s = 2 from if_neg h1] at hp
    have SH : Hid (Calls Tryd.prog 11 #[.slice A n c, .int .i64 1] W0 (RetSh W0 2 0 false)) := sh_err (hp.below D0.out) (by decide)
    rw [fin_big (by omega) (by omega)]
    clear hp h1 hv hs hx hT s0 hW0 ZS
    go_enter Tryd.func109, Tryd.ntmps109
    go_wp2_with (go_at_call 11; rw [HW0.out]; (with_reducible refine SH.out.mono ?_); rintro e w2 ⟨A2, n2, c2, rfl, hv2, hb2⟩; have D5 := Lib.hid hb2; have R2 := KB.out _ D5.out; have q0 := R2.at_ 0 rfl; have q1 := R2.at_ 1 rfl; have q2 := R2.at_ 2 rfl; have f0 := R2.frozen 0; have f1 := R2.frozen 1; have f2 := R2.frozen 2; have R2 := Lib.hid R2)
    exact bodyPost_ret (v := .tuple #[.agg #[.bool false, .slice none 0 0, .int .i64 0], .int .i64 2]) (by simp [results, Tryd.results109, go_sem, q0, q1, q2]) rfl
        (RetD.none (below3 (D0.out.trans (D5.out.mono D0.out.size)) (Nat.le_refl _) _ _ _))
end DC
end Go.Proofs.YtnpeokgjfnobmaaDoor

/-
  A region that draws its order, with a condition on the world that is held till the last operations (numbers from 'nl' on, which wait for all that is taken first): a store at the end may then hit a cell that the region loads.
-/
namespace Go.Proofs.YtnpeokgjfnobmaaDoor
set_option linter.unusedVariables false
set_option linter.unusedSimpArgs false
open Go.RowKit
set_option linter.unusedVariables false
section
variable {P : Program} {ops : Array Oper} {Q : Exit → Act → World → Prop} {md : Region.Mode} {S : World → Prop} {nl : Nat}
/-- whatever order is picked; behind every operation but the last ones the condition holds -/
def wpAnyL (P : Program) (md : Region.Mode) (ops : Array Oper) (Q : Exit → Act → World → Prop) (S : World → Prop) (nl : Nat) : Nat → Array Bool → Act → World → Prop
  | 0, listed, a, w => Region.ready md ops listed = [] ∧ Q .normal a w
  | fuel + 1, listed, a, w =>
    (Region.ready md ops listed = [] → Q .normal a w) ∧
    ∀ i ∈ Region.ready md ops listed, wpOp P ops Q i (fun a' w' => (i < nl → S w') ∧ wpAnyL P md ops Q S nl fuel (listed.setIfInBounds i true) a' w') a w
theorem wpAny_of_L : ∀ (fuel : Nat) (listed : Array Bool) (a : Act) (w : World), wpAnyL P md ops Q S nl fuel listed a w → wpAny P md ops Q fuel listed a w
  | 0, _, _, _, h => h
  | fuel + 1, _, _, _, h => ⟨h.1, fun i hi => wpOp_mono (fun a' w' h' => wpAny_of_L fuel _ a' w' h'.2) (h.2 i hi)⟩
/-- do all the last ones that have not come up wait for number i, or for one that has not come up and waits for it? -/
def lastWait (md : Region.Mode) (ops : Array Oper) (nl : Nat) (listed : Array Bool) (i : Nat) : Bool :=
  (List.range ops.size).all fun j => decide (j < nl) || j == i || listed.getD j true || match ops[j]? with
    | some oj => oj.after.any (fun e => Region.binds md e && (e.on == i || (!listed.getD e.on true && match ops[e.on]? with
      | some ok => ok.after.any (fun e' => Region.binds md e' && e'.on == i)
      | none => false)))
    | none => true
def LastWaits (md : Region.Mode) (ops : Array Oper) (nl : Nat) (listed : Array Bool) (i : Nat) : Prop :=
  ∀ (j : Nat) (oj : Oper), ops[j]? = some oj → nl ≤ j → j ≠ i → listed.getD j true = false →
    (∃ e ∈ oj.after, Region.binds md e = true ∧ e.on = i) ∨
    (∃ e ∈ oj.after, Region.binds md e = true ∧ listed.getD e.on true = false ∧ ∃ ok, ops[e.on]? = some ok ∧ ∃ e' ∈ ok.after, Region.binds md e' = true ∧ e'.on = i)
theorem lastWait_spec {listed : Array Bool} {i : Nat} (h : lastWait md ops nl listed i = true) : LastWaits md ops nl listed i := by
  intro j oj hj hnl hne hun
  unfold lastWait at h
  simp only [List.all_eq_true, List.mem_range] at h
  have h1 := h j (Array.getElem?_eq_some_iff.1 hj).1
  have hd : decide (j < nl) = false := by simp; exact hnl
  have hne' : (j == i) = false := by simpa using hne
  simp only [hj, hd, hne', hun, Bool.false_or] at h1
  obtain ⟨e, he, hb⟩ := Array.any_eq_true'.1 h1
  simp only [Bool.and_eq_true, Bool.or_eq_true, beq_iff_eq, Bool.not_eq_true'] at hb
  obtain ⟨hb1, hb2 | ⟨hb2, hb3⟩⟩ := hb
  · exact .inl ⟨e, he, hb1, hb2⟩
  · refine .inr ⟨e, he, hb1, hb2, ?_⟩
    cases hk : ops[e.on]? with
    | none => rw [hk] at hb3; cases hb3
    | some ok =>
      rw [hk] at hb3
      obtain ⟨e', he', hb'⟩ := Array.any_eq_true'.1 hb3
      simp only [Bool.and_eq_true, beq_iff_eq] at hb'
      exact ⟨ok, rfl, e', he', hb'.1, hb'.2⟩
theorem getD_both {listed : Array Bool} {k : Nat} (h1 : listed.getD k true = false) (h2 : listed.getD k false = true) : False := by
  rcases Nat.lt_or_ge k listed.size with h | h
  · simp [h] at h1 h2; rw [h1] at h2; cases h2
  · simp [Array.getElem?_eq_none h] at h2
theorem wpAnyL_first {i : Nat} {oi : Oper} {v : Value} (hi : ops[i]? = some oi) (hsel : ∀ (j : Nat) (o : Oper) cs b, ops[j]? = some o → o.op ≠ .select cs b)
    (hQ : ∀ c a w, Q (.panic c) (a.put oi.dst v) w → Q (.panic c) a w) :
    ∀ (fuel : Nat) (listed : Array Bool) (a : Act) (w : World),
      (∀ j oj, ops[j]? = some oj → j ≠ i → listed.getD j true = false → (∀ e ∈ oj.after, Region.binds md e = true → e.on ≠ i) → oi.apart ops oj = true) → LastWaits md ops nl listed i →
      i ∈ Region.ready md ops listed → YieldsIf P ops S oi v a → S w →
      wpAnyL P md ops Q S nl fuel (listed.setIfInBounds i true) (a.put oi.dst v) w → wpAnyL P md ops Q S nl (fuel + 1) listed a w := by
  intro fuel
  induction fuel with
  | zero =>
    intro listed a w _ _ hr hy hS H
    refine ⟨fun h => (by rw [h] at hr; cases hr), fun j hj => ?_⟩
    by_cases hji : j = i
    · subst hji; exact hy.wpOp hi hS ⟨fun _ => hS, H⟩
    · have := ready_mono hj hji
      rw [H.1] at this
      cases this
  | succ fuel ih =>
    intro listed a w hfree hW hr hy hS H
    refine ⟨fun h => (by rw [h] at hr; cases hr), fun j hj => ?_⟩
    by_cases hji : j = i
    · subst hji; exact hy.wpOp hi hS ⟨fun _ => hS, H⟩
    · have h1 := H.2 j (ready_mono hj hji)
      obtain ⟨hjun, oj, hoj, hall⟩ := mem_ready.1 hj
      have hnot : ∀ e ∈ oj.after, Region.binds md e = true → e.on ≠ i := fun e he hb heq => by
        have h1 := hall e he hb
        have h0 := (mem_ready.1 hr).1
        rw [heq] at h1
        rcases Nat.lt_or_ge i listed.size with h' | h'
        · simp [h'] at h0 h1; rw [h0] at h1; cases h1
        · simp [Array.getElem?_eq_none h'] at h1
      have hap := hfree j oj hoj hji hjun hnot
      have hiun := (mem_ready.1 hr).1
      have hlt : j < nl := by
        rcases Nat.lt_or_ge j nl with h | h
        · exact h
        · exfalso
          rcases hW j oj hoj h hji hjun with ⟨e, he, hb, heq⟩ | ⟨e, he, hb, hun, _⟩
          · exact hnot e he hb heq
          · exact getD_both hun (hall e he hb)
      have h2 := wpOp_putIf hoj hap (fun cs b => hsel i oi cs b hi) (fun cs b => hsel j oj cs b hoj) hQ hy h1
      refine wpOp_mono (fun a' w' h3 => ⟨h3.2.1, ih (listed.setIfInBounds j true) a' w' ?_ ?_ (ready_mono hr (Ne.symm hji)) h3.1 (h3.2.1 hlt) ?_⟩) h2
      · intro k ok hk hki hun hno
        refine hfree k ok hk hki ?_ hno
        by_cases hjk : j = k
        · subst hjk; exact hjun
        · rw [getD_set_ne true hjk] at hun; exact hun
      · intro k ok hk hnl hki hun
        have hun' : listed.getD k true = false := by
          by_cases hjk : j = k
          · subst hjk; exact hjun
          · rw [getD_set_ne true hjk] at hun; exact hun
        rcases hW k ok hk hnl hki hun' with h | ⟨e, he, hb, hu, o2, ho2, e', he', hb', heq⟩
        · exact .inl h
        · refine .inr ⟨e, he, hb, ?_, o2, ho2, e', he', hb', heq⟩
          by_cases hje : j = e.on
          · exfalso
            rw [← hje, hoj] at ho2
            injection ho2 with ho2
            subst ho2
            exact hnot e' he' hb' heq
          · rw [getD_set_ne true hje]; exact hu
      · rw [Array.setIfInBounds_comm _ _ hji]
        exact h3.2.2
theorem wpAnyL_take {i : Nat} {oi : Oper} {v : Value} {fuel : Nat} {listed : Array Bool} {a : Act} {w : World} (hi : ops[i]? = some oi)
    (hs : Region.noSelect ops = true) (hf : (Region.free md ops listed i && lastWait md ops nl listed i) = true) (hr : (Region.ready md ops listed).contains i = true)
    (hQ : ∀ c a w, Q (.panic c) (a.put oi.dst v) w → Q (.panic c) a w) (hy : YieldsIf P ops S oi v a) (hS : S w)
    (h : wpAnyL P md ops Q S nl fuel (listed.setIfInBounds i true) (a.put oi.dst v) w) : wpAnyL P md ops Q S nl (fuel + 1) listed a w := by
  simp only [Bool.and_eq_true] at hf
  exact wpAnyL_first hi (Region.noSelect_spec hs) hQ fuel listed a w (fun j oj hj hne hun hno => Region.free_spec hi hf.1 j oj hj hne hun hno) (lastWait_spec hf.2) (by simpa using hr) hy hS h
/-- the one operation that may come up comes up -/
theorem wpAnyL_one {i : Nat} {o : Oper} {fuel : Nat} {listed : Array Bool} {a : Act} {w : World} (hr : Region.ready md ops listed = [i]) (ho : ops[i]? = some o)
    (h : ∀ K' : Act → World → Prop, Shut (∀ a w, (i < nl → S w) → ((i < nl → S w) → wpAnyL P md ops Q S nl fuel (listed.setIfInBounds i true) a w) → K' a w) → if Region.wanted o (yielded ops a.tmps) = true then Oper.wp P o a w K' Q else K' (a.put o.dst undef) w) :
    wpAnyL P md ops Q S nl (fuel + 1) listed a w := by
  refine ⟨fun h0 => (by rw [hr] at h0; cases h0), fun j hj => ?_⟩
  rw [hr] at hj
  obtain rfl : j = i := by simpa using hj
  exact wpOp_step ho (fun K' hK => h K' (fun a w hS hW => hK a w ⟨hS, hW hS⟩))
/-- one of two comes up -/
theorem wpAnyL_two {i j : Nat} {oi oj : Oper} {fuel : Nat} {listed : Array Bool} {a : Act} {w : World} (hr : Region.ready md ops listed = [i, j]) (hoi : ops[i]? = some oi) (hoj : ops[j]? = some oj)
    (h1 : ∀ K' : Act → World → Prop, Shut (∀ a w, (i < nl → S w) → ((i < nl → S w) → wpAnyL P md ops Q S nl fuel (listed.setIfInBounds i true) a w) → K' a w) → if Region.wanted oi (yielded ops a.tmps) = true then Oper.wp P oi a w K' Q else K' (a.put oi.dst undef) w)
    (h2 : ∀ K' : Act → World → Prop, Shut (∀ a w, (j < nl → S w) → ((j < nl → S w) → wpAnyL P md ops Q S nl fuel (listed.setIfInBounds j true) a w) → K' a w) → if Region.wanted oj (yielded ops a.tmps) = true then Oper.wp P oj a w K' Q else K' (a.put oj.dst undef) w) :
    wpAnyL P md ops Q S nl (fuel + 1) listed a w := by
  refine ⟨fun h0 => (by rw [hr] at h0; cases h0), fun k hk => ?_⟩
  rw [hr] at hk
  rcases List.mem_cons.1 hk with rfl | hk
  · exact wpOp_step hoi (fun K' hK => h1 K' (fun a w hS hW => hK a w ⟨hS, hW hS⟩))
  · obtain rfl : k = j := by simpa using hk
    exact wpOp_step hoj (fun K' hK => h2 K' (fun a w hS hW => hK a w ⟨hS, hW hS⟩))
theorem wpAnyL_done {listed : Array Bool} {a : Act} {w : World} (hr : Region.ready md ops listed = []) (h : Q .normal a w) :
    ∀ fuel, wpAnyL P md ops Q S nl fuel listed a w
  | 0 => ⟨hr, h⟩
  | _ + 1 => ⟨fun _ => h, by rw [hr]; simp⟩
theorem wp_region_L {id : Nat} {a : Act} {w : World} (hm : P.follows .mixedOrders = true) (hS : S w.drew)
    (h : S w.drew → wpAnyL P .any ops Q S nl ops.size (Array.replicate ops.size false) a w.drew) : (Code.region id ops true).wp P Q a w :=
  wp_region_any hm (wpAny_of_L _ _ _ _ (h hS))
end
end Go.Proofs.YtnpeokgjfnobmaaDoor

/-
  Package dyad: compareSizes.
-/
namespace Go.Proofs.YtnpeokgjfnobmaaDoor
set_option linter.unusedVariables false
set_option linter.unusedSimpArgs false
open Go.RowKit
set_option linter.unusedVariables false
namespace DC
open L NC NK
open Z (Nz Tz cmpv)
/-- without its sign -/
def ab (d : Dy) : Dy := ⟨d.er, d.m.natAbs, d.x⟩
/-- behind two boxes -/
theorem box2 (w : World) (b1 b2 : Bool) (A1 A2 : Option Addr) (n1 c1 n2 c2 : Nat) (x1 x2 : Int) :
    ∃ W0, (w.alloc (.cells #[.bool b1, .slice A1 n1 c1, .int .i64 x1] 48)).alloc (.cells #[.bool b2, .slice A2 n2 c2, .int .i64 x2] 48) = W0 ∧ Below w.heap.size w W0 ∧
    (∀ W, Below W0.heap.size W0 W → BX W w.heap.size b1 A1 n1 c1 x1 ∧ BX W (w.heap.size + 1) b2 A2 n2 c2 x2) := by
  obtain ⟨N1, N2, NS, NB⟩ := new2 w 48 48 #[.bool b1, .slice A1 n1 c1, .int .i64 x1] #[.bool b2, .slice A2 n2 c2, .int .i64 x2] 0
  rw [World.drewN_zero] at N1 N2 NS NB
  exact ⟨_, rfl, NB, fun W h => ⟨BX.of (N1.below h N1.lt), BX.of (N2.below h N2.lt)⟩⟩
theorem gv_zero {w : World} {b A n c x d} (h : GV w b A n c x d) : n = 0 ↔ d.m = 0 := by
  constructor
  · rintro rfl
    obtain ⟨l, h1, h2, h3, h4⟩ := h.1
    have := List.length_eq_zero_iff.1 (h1.len_.1.symm)
    rw [this] at h4
    simp [lv] at h4
    omega
  · intro e
    have h1 := h.1
    rw [e] at h1
    exact NV.zero h1
theorem tops_lt {m1 m2 : Int} {k1 k2 i j : Nat} (h1 : m1 < 2 ^ k1) (h2 : k2 = 0 ∨ 2 ^ (k2 - 1) ≤ m2) (p2 : 0 < m2) (q2 : m2 < 2 ^ k2) (hk : (k1 : Int) + i < k2 + j) : m1 * 2 ^ i < m2 * 2 ^ j := by
  have hk2 : 0 < k2 := by
    rcases Nat.eq_zero_or_pos k2 with h | h
    · rw [h] at q2; simp at q2; omega
    · exact h
  have h2 : (2 : Int) ^ (k2 - 1) ≤ m2 := by rcases h2 with h | h; omega; exact h
  have a1 := Int.mul_lt_mul_of_pos_right h1 (two_pos' i)
  have a2 := Int.mul_le_mul_of_nonneg_right h2 (Int.le_of_lt (two_pos' j))
  rw [← Int.pow_add] at a1 a2
  have a3 : (2 : Int) ^ (k1 + i) ≤ 2 ^ (k2 - 1 + j) := two_mono (by omega)
  omega
theorem tops_small {m1 : Int} {k1 k2 i j : Nat} (h1 : m1 < 2 ^ k1) (hk : (k1 : Int) + i = k2 + j) (hj : i = 0 ∨ j = 0) (b1 : k1 ≤ 12800) (b2 : k2 ≤ 12800) : m1 * 2 ^ i < 4294967296 ^ 400 := by
  have a1 := Int.mul_lt_mul_of_pos_right h1 (two_pos' i)
  rw [← Int.pow_add] at a1
  have a2 : (2 : Int) ^ (k1 + i) ≤ 2 ^ 12800 := two_mono (by omega)
  rw [pow_two]
  have e : 32 * 400 = 12800 := by decide
  rw [e]
  omega
set_option maxRecDepth 100000 in
theorem compareSizes_c (b1 b2 : Bool) (A1 A2 : Option Addr) (n1 c1 n2 c2 : Nat) (x1 x2 : Int) (d1 d2 : Dy) (w : World) (h1 : GV w b1 A1 n1 c1 x1 d1) (h2 : GV w b2 A2 n2 c2 x2 d2) (hT : TabD w) :
    Calls Tryd.prog 77 #[.agg #[.bool b1, .slice A1 n1 c1, .int .i64 x1], .agg #[.bool b2, .slice A2 n2 c2, .int .i64 x2]] w (RetB w (.int .i64 (cmpv (lv2 (ab d1) (ab d2)) (lv2 (ab d2) (ab d1))))) := by
  have z1 := gv_zero h1
  have z2 := gv_zero h2
  have e1 : x1 = d1.x := h1.2.2.1
  have e2 : x2 = d2.x := h2.2.2.1
  obtain ⟨W0, hW0, D0, KB⟩ := box2 w b1 b2 A1 A2 n1 c1 n2 c2 x1 x2
  have I1 : Hid (∀ W, Calls Tryd.prog 79 #[.agg #[.bool b1, .slice A1 n1 c1, .int .i64 x1]] W (RetB W (.bool (decide (n1 = 0))))) := fun W => isZero_c b1 A1 n1 c1 x1 W
  have I2 : Hid (∀ W, Calls Tryd.prog 79 #[.agg #[.bool b2, .slice A2 n2 c2, .int .i64 x2]] W (RetB W (.bool (decide (n2 = 0))))) := fun W => isZero_c b2 A2 n2 c2 x2 W
  have E1 := Lib.hid e1
  have E2 := Lib.hid e2
  clear e1 e2
  have KC : Hid (∀ W, Below W0.heap.size W0 W → W.cell? ⟨w.heap.size, 0, none⟩ = some (.bool b1) ∧ W.cell? ⟨w.heap.size, 1, none⟩ = some (.slice A1 n1 c1) ∧ W.cell? ⟨w.heap.size, 2, none⟩ = some (.int .i64 x1) ∧
    W.cell? ⟨w.heap.size + 1, 0, none⟩ = some (.bool b2) ∧ W.cell? ⟨w.heap.size + 1, 1, none⟩ = some (.slice A2 n2 c2) ∧ W.cell? ⟨w.heap.size + 1, 2, none⟩ = some (.int .i64 x2)) := fun W h => by
    obtain ⟨⟨p0, p1, p2⟩, q0, q1, q2⟩ := KB W h
    exact ⟨p0, p1, p2, q0, q1, q2⟩
  have KB := Lib.hid KB
  have D0 := Lib.hid D0
  have HW0 := Lib.hid hW0
  have CI : Hid (∀ x y W, Calls Tryd.prog 94 #[.int .i64 x, .int .i64 y] W (fun e w' => e = .returned (.int .i64 (cmpv x y)) ∧ W = w')) := fun x y W => cmpInt_c x y W
  obtain ⟨r, hr⟩ : ∃ r, cmpv (lv2 (ab d1) (ab d2)) (lv2 (ab d2) (ab d1)) = r := ⟨_, rfl⟩
  rw [hr]
  by_cases g1 : n1 = 0
  · have HE : Hid (cmpv (n1 : Int) n2 = r) := by
      show _ = _
      rw [← hr]
      unfold lv2 ab
      rw [z1.1 g1, g1]
      by_cases g2 : n2 = 0
      · rw [z2.1 g2, g2]; simp [cmpv]
      · have : 0 < (d2.m.natAbs : Int) * 2 ^ (d2.x - min d2.x d1.x).toNat := Int.mul_pos (by have := fun h => g2 (z2.2 h); omega) (two_pos' _)
        rw [Z.cmpv_lt (show ((0 : Nat) : Int) < n2 by omega), Z.cmpv_lt (by simpa using this)]
    have t1 : decide (n1 = 0) = true := by simp [g1]
    rw [t1] at I1
    clear h1 h2 z1 z2 hr t1 hT g1 I2 hW0
    go_enter Tryd.func77, Tryd.ntmps77
    go_wp2_with (first
      | (go_at_call 79; rw [HW0.out]; (with_reducible refine (I1.out _).mono ?_); rintro e w2 ⟨rfl, hb2⟩; obtain ⟨⟨p0, p1, p2⟩, q0, q1, q2⟩ := KB.out _ hb2)
      | (go_at_call 94; (with_reducible refine (CI.out _ _ _).mono ?_); rintro e w3 ⟨rfl, rfl⟩))
    go_ret
    exact ⟨ret_int HE.out, D0.out.trans (hb2.mono D0.out.size)⟩
  · have t1 : decide (n1 = 0) = false := by simp [g1]
    rw [t1] at I1
    by_cases g2 : n2 = 0
    · have HE : Hid (cmpv (n1 : Int) n2 = r) := by
        show _ = _
        rw [← hr]
        unfold lv2 ab
        rw [z2.1 g2, g2]
        have : 0 < (d1.m.natAbs : Int) * 2 ^ (d1.x - min d1.x d2.x).toNat := Int.mul_pos (by have := fun h => g1 (z1.2 h); omega) (two_pos' _)
        rw [Z.cmpv_gt (show ((0 : Nat) : Int) < n1 by omega), Z.cmpv_gt (by simpa using this)]
      have t2 : decide (n2 = 0) = true := by simp [g2]
      rw [t2] at I2
      clear h1 h2 z1 z2 hr t1 hT g1 t2 g2 hW0
      go_enter Tryd.func77, Tryd.ntmps77
      go_wp2_with (first
        | (go_at_call 79; rw [HW0.out]; (with_reducible refine (I1.out _).mono ?_); rintro e w2 ⟨rfl, hb2⟩; obtain ⟨⟨p0, p1, p2⟩, q0, q1, q2⟩ := KB.out _ hb2)
        | (go_at_call 79; (with_reducible refine (I2.out _).mono ?_); rintro e w3 ⟨rfl, hb3⟩; have hb2 := hb2.trans (hb3.mono hb2.size); obtain ⟨⟨p0, p1, p2⟩, q0, q1, q2⟩ := KB.out _ hb2)
        | (go_at_call 94; (with_reducible refine (CI.out _ _ _).mono ?_); rintro e w3 ⟨rfl, rfl⟩))
      go_ret
      exact ⟨ret_int HE.out, D0.out.trans (hb2.mono D0.out.size)⟩
    · have t2 : decide (n2 = 0) = false := by simp [g2]
      rw [t2] at I2
      have T1 : Hid (∀ W, Below W0.heap.size W0 W → Calls Tryd.prog 95 #[.agg #[.bool b1, .slice A1 n1 c1, .int .i64 x1]] W (RetTop W d1)) := fun W hW => top_c b1 A1 n1 c1 x1 d1 W ((h1.below D0.out).below hW)
      have T2 : Hid (∀ W, Below W0.heap.size W0 W → Calls Tryd.prog 95 #[.agg #[.bool b2, .slice A2 n2 c2, .int .i64 x2]] W (RetTop W d2)) := fun W hW => top_c b2 A2 n2 c2 x2 d2 W ((h2.below D0.out).below hW)
      clear hW0 t1 t2
      go_enter Tryd.func77, Tryd.ntmps77
      go_upto_region 3 with (first
        | (go_at_call 79; rw [HW0.out]; (with_reducible refine (I1.out _).mono ?_); rintro e w2 ⟨rfl, hb2⟩; obtain ⟨⟨p0, p1, p2⟩, q0, q1, q2⟩ := KB.out _ hb2)
        | (go_at_call 79; (with_reducible refine (I2.out _).mono ?_); rintro e w3 ⟨rfl, hb3⟩; have hb2 := hb2.trans (hb3.mono hb2.size); obtain ⟨⟨p0, p1, p2⟩, q0, q1, q2⟩ := KB.out _ hb2))
      clear p0 p1 p2 q0 q1 q2
      have D := hb2.drew
      (refine wp_region_L (S := fun w' => w'.cell? ⟨w.heap.size, 0, none⟩ = some (.bool b1) ∧ w'.cell? ⟨w.heap.size, 1, none⟩ = some (.slice A1 n1 c1) ∧ w'.cell? ⟨w.heap.size, 2, none⟩ = some (.int .i64 x1) ∧ w'.cell? ⟨w.heap.size + 1, 0, none⟩ = some (.bool b2) ∧ w'.cell? ⟨w.heap.size + 1, 1, none⟩ = some (.slice A2 n2 c2) ∧ w'.cell? ⟨w.heap.size + 1, 2, none⟩ = some (.int .i64 x2)) (nl := 1000000) (by kernel_rfl) ?_ (fun hHeld => ?_); focus (exact KC.out _ D))
      (refine wpAnyL_take (i := 0) (oi := _) (v := ?_) rfl (by kernel_rfl) (by kernel_rfl) (by kernel_rfl) (fun _ _ _ h => h) (Or.inl ⟨by first | rfl | kernel_rfl, ?hy1⟩) (by assumption) ?rs1; (case hy1 => (intro w hSw; (try dsimp only at hSw); go_simp; first | done | with_reducible rfl)); case' rs1 => (simp only [List.getElem_toArray, List.getElem_cons_zero, List.getElem_cons_succ, Act.put, List.setIfInBounds_toArray, List.set_cons_zero, List.set_cons_succ])); (refine wpAnyL_take (i := 2) (oi := _) (v := ?_) rfl (by kernel_rfl) (by kernel_rfl) (by kernel_rfl) (fun _ _ _ h => h) (Or.inl ⟨by first | rfl | kernel_rfl, ?hy2⟩) (by assumption) ?rs2; (case hy2 => (intro w hSw; (try dsimp only at hSw); go_simp; first | done | with_reducible rfl)); case' rs2 => (simp only [List.getElem_toArray, List.getElem_cons_zero, List.getElem_cons_succ, Act.put, List.setIfInBounds_toArray, List.set_cons_zero, List.set_cons_succ])); skip
      (refine wpAnyL_one (i := 1) (o := _) (by kernel_rfl) rfl (fun K hK => ?_); clear hHeld; simp only [List.getElem_toArray, List.getElem_cons_zero, List.getElem_cons_succ]; go_simp; (go_at_call 95; (with_reducible refine (T1.out _ D).mono ?_); rintro e w3 ⟨k1, rfl, hk1, hh1, hb3⟩; have D := D.trans (hb3.mono D.size)); refine hK.out _ _ ?_ (fun hHeld => ?_); focus (intro _; exact KC.out _ D)); have hHeld := hHeld (by decide); clear hK K; (try simp only [Act.put, List.setIfInBounds_toArray, List.set_cons_zero, List.set_cons_succ])
      (refine wpAnyL_one (i := 3) (o := _) (by kernel_rfl) rfl (fun K hK => ?_); clear hHeld; simp only [List.getElem_toArray, List.getElem_cons_zero, List.getElem_cons_succ]; go_simp; (go_at_call 95; (with_reducible refine (T2.out _ D).mono ?_); rintro e w4 ⟨k2, rfl, hk2, hh2, hb4⟩; have D := D.trans (hb4.mono D.size)); refine hK.out _ _ ?_ (fun hHeld => ?_); focus (intro _; exact KC.out _ D)); have hHeld := hHeld (by decide); clear hK K; (try simp only [Act.put, List.setIfInBounds_toArray, List.set_cons_zero, List.set_cons_succ])
      (refine wpAnyL_one (i := 4) (o := _) (by kernel_rfl) rfl (fun K hK => ?_); clear hHeld; simp only [List.getElem_toArray, List.getElem_cons_zero, List.getElem_cons_succ]; go_simp; (go_at_call 94; (with_reducible refine (CI.out _ _ _).mono ?_); rintro e w5 ⟨rfl, rfl⟩); refine hK.out _ _ ?_ (fun hHeld => ?_); focus (intro _; exact KC.out _ D)); have hHeld := hHeld (by decide); clear hK K; (try simp only [Act.put, List.setIfInBounds_toArray, List.set_cons_zero, List.set_cons_succ])
      (refine wpAnyL_take (i := 5) (oi := _) (v := ?_) rfl (by kernel_rfl) (by kernel_rfl) (by kernel_rfl) (fun _ _ _ h => h) (Or.inl ⟨by first | rfl | kernel_rfl, ?hy3⟩) (by assumption) ?rs3; (case hy3 => (intro w hSw; (try dsimp only at hSw); go_simp; first | done | with_reducible rfl)); case' rs3 => (simp only [List.getElem_toArray, List.getElem_cons_zero, List.getElem_cons_succ, Act.put, List.setIfInBounds_toArray, List.set_cons_zero, List.set_cons_succ])); skip
      refine wpAnyL_done (by kernel_rfl) ?_ _
      have hm1 : 0 < (d1.m.natAbs : Int) := by have := fun h => g1 (z1.2 h); omega
      have hm2 : 0 < (d2.m.natAbs : Int) := by have := fun h => g2 (z2.2 h); omega
      have ei : ∃ i : Nat, (i : Int) = d1.x - min d1.x d2.x := ⟨(d1.x - min d1.x d2.x).toNat, by omega⟩
      have ej : ∃ j : Nat, (j : Int) = d2.x - min d1.x d2.x := ⟨(d2.x - min d1.x d2.x).toNat, by omega⟩
      obtain ⟨i, ei⟩ := ei
      obtain ⟨j, ej⟩ := ej
      have HL : cmpv ((d1.m.natAbs : Int) * 2 ^ i) ((d2.m.natAbs : Int) * 2 ^ j) = r := by
        rw [← hr]
        unfold lv2 ab
        simp only
        rw [show (d1.x - min d1.x d2.x).toNat = i by omega, show (d2.x - min d2.x d1.x).toNat = j by omega]
      obtain ⟨u1, u2⟩ := hh1.out
      obtain ⟨v1, v2⟩ := hh2.out
      have HC : Hid ((cmpv (k1 + d1.x) (k2 + d2.x) = r ∧ (r != 0) = true) ∨ (cmpv (k1 + d1.x) (k2 + d2.x) = 0 ∧ (d1.m.natAbs : Int) * 2 ^ i < 4294967296 ^ 400 ∧ (d2.m.natAbs : Int) * 2 ^ j < 4294967296 ^ 400)) := by
        rcases Int.lt_trichotomy (k1 + d1.x) (k2 + d2.x) with h | h | h
        · left
          have t := tops_lt (i := i) (j := j) u1 v2 hm2 v1 (by omega)
          exact ⟨by rw [← HL, Z.cmpv_lt h, Z.cmpv_lt t], by rw [← HL, Z.cmpv_lt t]; rfl⟩
        · right
          exact ⟨Z.cmpv_eq h, tops_small (k2 := k2) (i := i) (j := j) u1 (by omega) (by omega) hk1 hk2, tops_small (k2 := k1) (i := j) (j := i) v1 (by omega) (by omega) hk2 hk1⟩
        · left
          have t := tops_lt (i := j) (j := i) v1 u2 hm1 u1 (by omega)
          exact ⟨by rw [← HL, Z.cmpv_gt h, Z.cmpv_gt t], by rw [← HL, Z.cmpv_gt t]; rfl⟩
      have AL : Hid (∀ W, Below W0.heap.size W0 W → Calls Tryd.prog 96 #[.agg #[.bool b1, .slice A1 n1 c1, .int .i64 x1], .agg #[.bool b2, .slice A2 n2 c2, .int .i64 x2], .int .i64 (min x1 x2)] W (RetA W ((d1.m.natAbs : Int) * 2 ^ i) ((d2.m.natAbs : Int) * 2 ^ j))) := fun W hW => by
        have e1 := E1.out
        have e2 := E2.out
        have y1 := h1.2.2.2.2.2.2.2
        have y2 := h2.2.2.2.2.2.2.2
        have := align_c b1 b2 A1 A2 n1 c1 n2 c2 x1 x2 d1 d2 (min x1 x2) W ((h1.below D0.out).below hW) ((h2.below D0.out).below hW) (by omega) (by omega) (by omega) ((hT.below D0.out).below hW)
        rwa [show d1.x - min x1 x2 = (i : Int) by omega, show d2.x - min x1 x2 = (j : Int) by omega, shq_up, shq_up] at this
      have HP := Lib.hid HL
      clear hm1 hm2 ei ej HL u1 u2 v1 v2 hh1 hh2 hk1 hk2 T1 T2 h1 h2 hr z1 z2 hT hb2 hb3 hb4 hHeld
      obtain ⟨⟨p0, p1, p2⟩, q0, q1, q2⟩ := KB.out _ D
      generalize (d1.m.natAbs : Int) * 2 ^ i = m1 at *
      generalize (d2.m.natAbs : Int) * 2 ^ j = m2 at *
      generalize cmpv (k1 + d1.x) (k2 + d2.x) = V at *
      rcases HC.out with ⟨hv1, hv2⟩ | ⟨hv1, hs1, hs2⟩
      · subst hv1
        clear HC
        go_wp2
        go_ret
        exact ⟨rfl, D0.out.trans (D.mono D0.out.size)⟩
      · subst hv1
        have CP : Hid (∀ W A3 n3 c3 A4 n4 c4, NV W (.slice A3 n3 c3) m1 → NV W (.slice A4 n4 c4) m2 → Calls Tryd.prog 97 #[.slice A3 n3 c3, .slice A4 n4 c4] W (NC.RetQ W (.tuple #[.int .i64 r, .int .i64 0]))) := fun W A3 n3 c3 A4 n4 c4 g1 g2 => by
          have h3 : (4294967296 : Int) ^ 400 ≤ big3 := by unfold big3; exact pow_mono (by decide)
          have q1 := g1.pv (Int.lt_of_lt_of_le hs1 h3)
          have q2 := g2.pv (Int.lt_of_lt_of_le hs2 h3)
          rw [show erz m1 = 0 from if_pos hs1] at q1
          rw [show erz m2 = 0 from if_pos hs2] at q2
          have := Cmp_p q1 q2
          rw [show ee 0 0 = 0 by decide, if_pos rfl, HP.out] at this
          exact this
        clear HC hs1 hs2
        go_wp2_with (first
          | (go_at_call 96; (with_reducible refine (AL.out _ D).mono ?_); rintro e w5 ⟨A3, n3, c3, A4, n4, c4, rfl, hv3, hv4, hb5⟩; have D := D.trans (hb5.mono D.size))
          | (go_at_call 97; (with_reducible refine (CP.out _ _ _ _ _ _ _ hv3 hv4).mono ?_); rintro e w6 ⟨rfl, k, rfl⟩))
        go_ret
        exact ⟨rfl, bdrew (D0.out.trans (D.mono D0.out.size)) k⟩
end DC
end Go.Proofs.YtnpeokgjfnobmaaDoor

/-
  Package dyad: addSizes.
-/
namespace Go.Proofs.YtnpeokgjfnobmaaDoor
set_option linter.unusedVariables false
set_option linter.unusedSimpArgs false
open Go.RowKit
set_option linter.unusedVariables false
namespace DC
open L NC NK
open Z (Nz Tz cmpv)
theorem p400_pos : (0 : Int) < 4294967296 ^ 400 := pow_pos 400
theorem p400_big : (4294967296 : Int) ^ 400 ≤ big3 := by unfold big3; exact pow_mono (by decide)
theorem p401_big : 8 * (4294967296 : Int) ^ 400 ≤ big3 := by
  have h1 : (4294967296 : Int) ^ 401 ≤ big3 := by unfold big3; exact pow_mono (by decide)
  have h2 : (4294967296 : Int) ^ 401 = 4294967296 ^ 400 * 4294967296 := Int.pow_succ _ _
  have := p400_pos
  generalize (4294967296 : Int) ^ 401 = c401 at *
  generalize (4294967296 : Int) ^ 400 = c400 at *
  omega
/-- both numbers in units of the lesser exponent's double -/
def Al (a b x1 x2 A B S1 S2 : Int) : Prop :=
  (0 ≤ A ∧ A < big3 ∧ 0 ≤ B ∧ B < big3) ∧
  ((x1 = x2 ∧ S1 = 2 * A + 1 ∧ S2 = 2 * B + 1 ∧ A < 4294967296 ^ 400 ∧ B < 4294967296 ^ 400 ∧ S1 < 4294967296 ^ 400 ∧ S2 < 4294967296 ^ 400) ∨
   (x2 < x1 ∧ S1 = 2 * A ∧ S2 = 2 * B + 1 ∧ B < 4294967296 ^ 400 ∧ S2 < 4294967296 ^ 400) ∨ (x1 < x2 ∧ S1 = 2 * A + 1 ∧ S2 = 2 * B ∧ A < 4294967296 ^ 400 ∧ S1 < 4294967296 ^ 400))
theorem al_of {a b x1 x2 : Int} (ha : a % 2 = 1) (hb : b % 2 = 1) (a0 : 0 < a) (b0 : 0 < b) (a1 : a < 4294967296 ^ 400) (b1 : b < 4294967296 ^ 400) (y1 : -10000 ≤ x1 ∧ x1 ≤ 10000) (y2 : -10000 ≤ x2 ∧ x2 ≤ 10000) :
    Al a b x1 x2 (shq a (x1 - (min x1 x2 + 1))) (shq b (x2 - (min x1 x2 + 1))) (a * 2 ^ (x1 - min x1 x2).toNat) (b * 2 ^ (x2 - min x1 x2).toNat) := by
  unfold Al
  have P := p400_pos
  have Q := p400_big
  rcases Int.lt_trichotomy x1 x2 with h | h | h
  · obtain ⟨p, hp⟩ : ∃ p : Nat, (p : Int) = x2 - x1 - 1 := ⟨(x2 - x1 - 1).toNat, by omega⟩
    rw [show min x1 x2 = x1 by omega, show x1 - (x1 + 1) = -1 by omega, shq_one, show x2 - (x1 + 1) = (p : Int) by omega, shq_up, show (x1 - x1).toNat = 0 by omega, show (x2 - x1).toNat = p + 1 by omega]
    have hs := shift_small b1 (Int.le_of_lt b0) (show p ≤ 20001 by omega)
    have hm := Int.mul_pos b0 (two_pos' p)
    rw [Int.pow_succ, ← Int.mul_assoc]
    rw [Int.pow_zero, Int.mul_one]
    generalize b * 2 ^ p = B at *
    generalize (4294967296 : Int) ^ 400 = c400 at *
    refine ⟨by omega, .inr (.inr ⟨h, by omega, by omega, by omega, by omega⟩)⟩
  · subst h
    rw [show min x1 x1 = x1 by omega, show x1 - (x1 + 1) = -1 by omega, shq_one, shq_one, show (x1 - x1).toNat = 0 by omega, Int.pow_zero, Int.mul_one, Int.mul_one]
    generalize (4294967296 : Int) ^ 400 = c400 at *
    refine ⟨by omega, .inl ⟨rfl, by omega, by omega, by omega, by omega, by omega, by omega⟩⟩
  · obtain ⟨p, hp⟩ : ∃ p : Nat, (p : Int) = x1 - x2 - 1 := ⟨(x1 - x2 - 1).toNat, by omega⟩
    rw [show min x1 x2 = x2 by omega, show x2 - (x2 + 1) = -1 by omega, shq_one, show x1 - (x2 + 1) = (p : Int) by omega, shq_up, show (x2 - x2).toNat = 0 by omega, show (x1 - x2).toNat = p + 1 by omega]
    have hs := shift_small a1 (Int.le_of_lt a0) (show p ≤ 20001 by omega)
    have hm := Int.mul_pos a0 (two_pos' p)
    rw [Int.pow_succ, ← Int.mul_assoc]
    rw [Int.pow_zero, Int.mul_one]
    generalize a * 2 ^ p = A at *
    generalize (4294967296 : Int) ^ 400 = c400 at *
    refine ⟨by omega, .inr (.inl ⟨h, by omega, by omega, by omega, by omega⟩)⟩
/-- behind two boxes and the result's cell -/
theorem box3 (w : World) (b1 b2 : Bool) (A1 A2 : Option Addr) (n1 c1 n2 c2 : Nat) (x1 x2 : Int) :
    ∃ W0, ((w.alloc (.cells #[.bool b1, .slice A1 n1 c1, .int .i64 x1] 48)).alloc (.cells #[.bool b2, .slice A2 n2 c2, .int .i64 x2] 48)).alloc (.cells #[.bool false, .slice none 0 0, .int .i64 0] 48) = W0 ∧ Below w.heap.size w W0 ∧
    (∀ W, Below W0.heap.size W0 W → (BX W w.heap.size b1 A1 n1 c1 x1 ∧ BX W (w.heap.size + 1) b2 A2 n2 c2 x2) ∧ Blk W (w.heap.size + 2) 48 #[.bool false, .slice none 0 0, .int .i64 0]) := by
  obtain ⟨N1, N2, N3, NS, NB⟩ := new3 w 48 48 48 #[.bool b1, .slice A1 n1 c1, .int .i64 x1] #[.bool b2, .slice A2 n2 c2, .int .i64 x2] #[.bool false, .slice none 0 0, .int .i64 0] 0
  rw [World.drewN_zero] at N1 N2 N3 NS NB
  exact ⟨_, rfl, NB, fun W h => ⟨⟨BX.of (N1.below h N1.lt), BX.of (N2.below h N2.lt)⟩, N3.below h N3.lt⟩⟩
theorem gv_odd {w : World} {b A n c x d} (h : GV w b A n c x d) (h0 : d.m ≠ 0) : (d.m.natAbs : Int) % 2 = 1 ∧ 0 < (d.m.natAbs : Int) ∧ (d.m.natAbs : Int) < 4294967296 ^ 400 ∧ d.m = sgm b d.m.natAbs := by
  obtain ⟨-, hb, -, -, hc, hi⟩ := h
  unfold can at hc
  unfold inb at hi
  generalize (4294967296 : Int) ^ 400 = c400 at *
  refine ⟨by omega, by omega, by omega, ?_⟩
  rw [hb]; unfold sgm
  by_cases h : d.m < 0 <;> simp [h] <;> omega
theorem sg_add (b : Bool) (y z : Int) : sgm b y + sgm b z = sgm b (y + z) := by cases b <;> simp [sgm] <;> omega
theorem sg_mul (b : Bool) (y z : Int) : sgm b y * z = sgm b (y * z) := by cases b <;> simp [sgm, Int.neg_mul]
theorem sg_not (b : Bool) (y : Int) : sgm (!b) y = - sgm b y := by cases b <;> simp [sgm]
theorem fin_two (b : Bool) (m x : Int) : fin (sgm b (2 * m)) x = fin (sgm b m) (x + 1) := by
  have h := fin_shift (sgm b m) x 1
  rw [show x + ((1 : Nat) : Int) = x + 1 from rfl] at h
  rw [← h]
  congr 1
  cases b <;> simp [sgm] <;> omega
set_option maxRecDepth 100000 in
theorem addSizes_c (b : Bool) (A1 A2 : Option Addr) (n1 c1 n2 c2 : Nat) (x1 x2 : Int) (d1 d2 : Dy) (w : World) (h1 : GV w b A1 n1 c1 x1 d1) (h2 : GV w b A2 n2 c2 x2 d2) (k1 : d1.m ≠ 0) (k2 : d2.m ≠ 0) (hT : TabD w) :
    Calls Tryd.prog 98 #[.agg #[.bool b, .slice A1 n1 c1, .int .i64 x1], .agg #[.bool b, .slice A2 n2 c2, .int .i64 x2]] w (RetD w (sum d1 d2)) := by
  obtain ⟨o1, p1, s1, g1⟩ := gv_odd h1 k1
  obtain ⟨o2, p2, s2, g2⟩ := gv_odd h2 k2
  have e1 : x1 = d1.x := h1.2.2.1
  have e2 : x2 = d2.x := h2.2.2.1
  have y1 := h1.2.2.2.2.2.2.2
  have y2 := h2.2.2.2.2.2.2.2
  rw [← e1] at y1
  rw [← e2] at y2
  have AL := al_of o1 o2 p1 p2 s1 s2 y1 y2
  have AC := align_c b b A1 A2 n1 c1 n2 c2 x1 x2 d1 d2 (min x1 x2 + 1)
  rw [← e1, ← e2] at AC
  have ER : sum d1 d2 = fin (sgm b ((d1.m.natAbs : Int) * 2 ^ (x1 - min x1 x2).toNat + (d2.m.natAbs : Int) * 2 ^ (x2 - min x1 x2).toNat)) (min x1 x2) := by
    unfold sum lv2
    rw [← e1, ← e2, ← sg_add, ← sg_mul, ← sg_mul, ← g1, ← g2, Int.min_comm x2 x1]
  obtain ⟨W0, hW0, D0, KB⟩ := box3 w b b A1 A2 n1 c1 n2 c2 x1 x2
  have AC : ∀ W, Below W0.heap.size W0 W → _ := fun W hW => AC W ((h1.below D0).below hW) ((h2.below D0).below hW) (by omega) (by omega) (by omega) ((hT.below D0).below hW)
  have HT : Hid (∀ W, Below W0.heap.size W0 W → TabD W) := fun W hW => (hT.below D0).below hW
  generalize shq (d1.m.natAbs : Int) (x1 - (min x1 x2 + 1)) = A at *
  generalize shq (d2.m.natAbs : Int) (x2 - (min x1 x2 + 1)) = B at *
  generalize (d1.m.natAbs : Int) * 2 ^ (x1 - min x1 x2).toNat = S1 at *
  generalize (d2.m.natAbs : Int) * 2 ^ (x2 - min x1 x2).toNat = S2 at *
  generalize sum d1 d2 = r at *
  have AC := Lib.hid AC
  have KB := Lib.hid KB
  have D0 := Lib.hid D0
  have HW0 := Lib.hid hW0
  obtain ⟨E, hE⟩ : ∃ E, E = min x1 x2 := ⟨_, rfl⟩
  have i1 : IntKind.i64.wrap (min x1 x2 + 1) = min x1 x2 + 1 := IntWalk.i64_in _ (by omega)
  obtain ⟨⟨A0, AB, B0, BB⟩, AL⟩ := AL
  have OF : Hid (∀ W, Calls Tryd.prog 70 #[.int .u64 1] W (RetV W 1)) := fun W => Of_c 1 W (by omega)
  have P1 := p401_big
  have P4 := p400_pos
  clear hW0 h1 h2 o1 o2 p1 p2 s1 s2 g1 g2 e1 e2 k1 k2 hT
  rcases AL with ⟨hx, q1, q2, q3, q4, q5, q6⟩ | AL
  · have AD : Hid (∀ W A3 n3 c3 A4 n4 c4, NV W (.slice A3 n3 c3) A → NV W (.slice A4 n4 c4) B → Calls Tryd.prog 108 #[.slice A3 n3 c3, .slice A4 n4 c4] W (RetP W 0 (A + B))) := fun W A3 n3 c3 A4 n4 c4 g1 g2 => by
      have q1 := g1.pv AB
      have q2 := g2.pv BB
      rw [show erz A = 0 from if_pos q3] at q1
      rw [show erz B = 0 from if_pos q4] at q2
      exact Add_p q1 q2
    have A1' : Hid (∀ W A3 n3 c3 A4 n4 c4, NV W (.slice A3 n3 c3) (A + B) → NV W (.slice A4 n4 c4) 1 → Calls Tryd.prog 108 #[.slice A3 n3 c3, .slice A4 n4 c4] W (RetP W 0 (A + B + 1))) := fun W A3 n3 c3 A4 n4 c4 g1 g2 => by
      have hab : A + B < 4294967296 ^ 400 := by omega
      have q1 := g1.pv (by omega)
      rw [show erz (A + B) = 0 from if_pos hab] at q1
      have q2 := g2.pv (small_big (by decide))
      rw [erz0 (by decide)] at q2
      exact Add_p q1 q2
    have FN : Hid (∀ W A3 n3 c3, Below W0.heap.size W0 W → NV W (.slice A3 n3 c3) (A + B + 1) → Calls Tryd.prog 69 #[.bool b, .slice A3 n3 c3, .int .i64 (min x1 x2 + 1)] W (RetD W r)) := fun W A3 n3 c3 hW g => by
      rw [ER, show S1 + S2 = 2 * (A + B + 1) by omega, fin_two]
      exact finish_any b A3 n3 c3 _ _ W g (by omega) (by omega) (.inl (by omega)) (HT.out W hW)
    have hx' : (x1 == x2) = true := by simp [hx]
    clear ER q1 q2 q3 q4 q5 q6 A0 AB B0 BB P1 P4 y1 y2 hx
    go_enter Tryd.func98, Tryd.ntmps98
    go_wp2_with (first
      | (go_at_call 96; rw [HW0.out]; (with_reducible refine (AC.out _ (Below.refl _ _)).mono ?_); rintro e w2 ⟨A3, n3, c3, A4, n4, c4, rfl, hv3, hv4, hb2⟩; have D := Lib.hid hb2; obtain ⟨⟨⟨p0, p1, p2⟩, q0, q1, q2⟩, R2⟩ := KB.out _ D.out; have t0 := R2.at_ 0 rfl; have t1 := R2.at_ 1 rfl; have t2 := R2.at_ 2 rfl; have f0 := R2.frozen 0; have f1 := R2.frozen 1; have f2 := R2.frozen 2; have R2 := Lib.hid R2)
      | (go_at_call 108; (with_reducible refine (AD.out _ _ _ _ _ _ _ hv3 hv4).mono ?_); rintro e w3 ⟨A5, n5, c5, rfl, hp5, hs5, hbb⟩; have D := Lib.hid (D.out.trans (hbb.mono D.out.size)); obtain ⟨⟨⟨p0, p1, p2⟩, q0, q1, q2⟩, R2⟩ := KB.out _ D.out; have t0 := R2.at_ 0 rfl; have t1 := R2.at_ 1 rfl; have t2 := R2.at_ 2 rfl; have f0 := R2.frozen 0; have f1 := R2.frozen 1; have f2 := R2.frozen 2; have R2 := Lib.hid R2)
      | (go_at_call 70; (with_reducible refine (OF.out _).mono ?_); rintro e w4 ⟨A6, n6, c6, rfl, ho6, hbb⟩; have hs5 := hs5.below hbb; have D := Lib.hid (D.out.trans (hbb.mono D.out.size)); obtain ⟨⟨⟨p0, p1, p2⟩, q0, q1, q2⟩, R2⟩ := KB.out _ D.out; have t0 := R2.at_ 0 rfl; have t1 := R2.at_ 1 rfl; have t2 := R2.at_ 2 rfl; have f0 := R2.frozen 0; have f1 := R2.frozen 1; have f2 := R2.frozen 2; have R2 := Lib.hid R2)
      | (go_at_call 108; (with_reducible refine (A1'.out _ _ _ _ _ _ _ hs5 ho6).mono ?_); rintro e w5 ⟨A7, n7, c7, rfl, hp7, hs7, hbb⟩; have D := Lib.hid (D.out.trans (hbb.mono D.out.size)); obtain ⟨⟨⟨p0, p1, p2⟩, q0, q1, q2⟩, R2⟩ := KB.out _ D.out; have t0 := R2.at_ 0 rfl; have t1 := R2.at_ 1 rfl; have t2 := R2.at_ 2 rfl; have f0 := R2.frozen 0; have f1 := R2.frozen 1; have f2 := R2.frozen 2; have R2 := Lib.hid R2)
      | (go_at_call 69; (with_reducible refine (FN.out _ _ _ _ D.out hs7).mono ?_); rintro e w6 ⟨bb, A5, n5, c5, x5, rfl, hv5, hbb⟩; have D := Lib.hid (D.out.trans (hbb.mono D.out.size)); obtain ⟨⟨⟨p0, p1, p2⟩, q0, q1, q2⟩, R2⟩ := KB.out _ D.out; have t0 := R2.at_ 0 rfl; have t1 := R2.at_ 1 rfl; have t2 := R2.at_ 2 rfl; have f0 := R2.frozen 0; have f1 := R2.frozen 1; have f2 := R2.frozen 2; have R2 := Lib.hid R2))
    exact bodyPost_ret (v := .tuple #[.agg #[.bool bb, .slice A5 n5 c5, .int .i64 x5], .int .i64 r.e]) (by simp [results, Tryd.results98, go_sem, t0, t1, t2]) rfl
          ⟨_, _, _, _, _, rfl, hv5.set3 R2.out _ _ _ (by intro z h; cases h) (by intro z h; cases h), below3 (D0.out.trans (D.out.mono D0.out.size)) (by omega) _ _ _⟩
  · have hS : S1 + S2 = 2 * (A + B) + 1 := by rcases AL with h | h <;> omega
    have hx' : (x1 == x2) = false := by simp; omega
    rw [hS] at ER
    clear AL hS
    by_cases h2 : A < 4294967296 ^ 400 ∧ B < 4294967296 ^ 400
    · have AD : Hid (∀ W A3 n3 c3 A4 n4 c4, NV W (.slice A3 n3 c3) A → NV W (.slice A4 n4 c4) B → Calls Tryd.prog 108 #[.slice A3 n3 c3, .slice A4 n4 c4] W (RetP W 0 (A + B))) := fun W A3 n3 c3 A4 n4 c4 g1 g2 => by
        have q1 := g1.pv AB
        have q2 := g2.pv BB
        rw [show erz A = 0 from if_pos h2.1] at q1
        rw [show erz B = 0 from if_pos h2.2] at q2
        exact Add_p q1 q2
      have FN : Hid (∀ W A3 n3 c3, Below W0.heap.size W0 W → NV W (.slice A3 n3 c3) (A + B) → Calls Tryd.prog 109 #[.bool b, .slice A3 n3 c3, .int .i64 (min x1 x2)] W (RetD W r)) := fun W A3 n3 c3 hW g => by
        rw [ER]
        exact finishHalf_c b A3 n3 c3 _ _ W g (by omega) (by omega) (HT.out W hW)
      clear ER h2 A0 AB B0 BB P1 P4 y1 y2
      go_enter Tryd.func98, Tryd.ntmps98
      go_wp2_with (first
        | (go_at_call 96; rw [HW0.out]; (with_reducible refine (AC.out _ (Below.refl _ _)).mono ?_); rintro e w2 ⟨A3, n3, c3, A4, n4, c4, rfl, hv3, hv4, hb2⟩; have D := Lib.hid hb2; obtain ⟨⟨⟨p0, p1, p2⟩, q0, q1, q2⟩, R2⟩ := KB.out _ D.out; have t0 := R2.at_ 0 rfl; have t1 := R2.at_ 1 rfl; have t2 := R2.at_ 2 rfl; have f0 := R2.frozen 0; have f1 := R2.frozen 1; have f2 := R2.frozen 2; have R2 := Lib.hid R2)
        | (go_at_call 108; (with_reducible refine (AD.out _ _ _ _ _ _ _ hv3 hv4).mono ?_); rintro e w3 ⟨A5, n5, c5, rfl, hp5, hs5, hbb⟩; have D := Lib.hid (D.out.trans (hbb.mono D.out.size)); obtain ⟨⟨⟨p0, p1, p2⟩, q0, q1, q2⟩, R2⟩ := KB.out _ D.out; have t0 := R2.at_ 0 rfl; have t1 := R2.at_ 1 rfl; have t2 := R2.at_ 2 rfl; have f0 := R2.frozen 0; have f1 := R2.frozen 1; have f2 := R2.frozen 2; have R2 := Lib.hid R2)
        | (go_at_call 109; (with_reducible refine (FN.out _ _ _ _ D.out hs5).mono ?_); rintro e w6 ⟨bb, A5, n5, c5, x5, rfl, hv5, hbb⟩; have D := Lib.hid (D.out.trans (hbb.mono D.out.size)); obtain ⟨⟨⟨p0, p1, p2⟩, q0, q1, q2⟩, R2⟩ := KB.out _ D.out; have t0 := R2.at_ 0 rfl; have t1 := R2.at_ 1 rfl; have t2 := R2.at_ 2 rfl; have f0 := R2.frozen 0; have f1 := R2.frozen 1; have f2 := R2.frozen 2; have R2 := Lib.hid R2))
      exact bodyPost_ret (v := .tuple #[.agg #[.bool bb, .slice A5 n5 c5, .int .i64 x5], .int .i64 r.e]) (by simp [results, Tryd.results98, go_sem, t0, t1, t2]) rfl
          ⟨_, _, _, _, _, rfl, hv5.set3 R2.out _ _ _ (by intro z h; cases h) (by intro z h; cases h), below3 (D0.out.trans (D.out.mono D0.out.size)) (by omega) _ _ _⟩
    · have AD : Hid (∀ W A3 n3 c3 A4 n4 c4, NV W (.slice A3 n3 c3) A → NV W (.slice A4 n4 c4) B → Calls Tryd.prog 108 #[.slice A3 n3 c3, .slice A4 n4 c4] W (RetP W 2 0)) := fun W A3 n3 c3 A4 n4 c4 g1 g2 => by
        have q1 := g1.pv AB
        have q2 := g2.pv BB
        have h := Add_p q1 q2
        have e : ee (erz A) (erz B) = 2 := by
          unfold ee erz
          generalize (4294967296 : Int) ^ 400 = c400 at *
          by_cases h3 : A < c400
          · by_cases h4 : B < c400
            · exact absurd ⟨h3, h4⟩ h2
            · simp [h3, h4]
          · simp [h3]
        rw [e] at h
        exact h
      rw [fin_big (by omega) (by omega)] at ER
      rw [ER]
      clear ER h2 A0 AB B0 BB P1 P4 y1 y2
      go_enter Tryd.func98, Tryd.ntmps98
      go_wp2_with (first
        | (go_at_call 96; rw [HW0.out]; (with_reducible refine (AC.out _ (Below.refl _ _)).mono ?_); rintro e w2 ⟨A3, n3, c3, A4, n4, c4, rfl, hv3, hv4, hb2⟩; have D := Lib.hid hb2; obtain ⟨⟨⟨p0, p1, p2⟩, q0, q1, q2⟩, R2⟩ := KB.out _ D.out; have t0 := R2.at_ 0 rfl; have t1 := R2.at_ 1 rfl; have t2 := R2.at_ 2 rfl; have f0 := R2.frozen 0; have f1 := R2.frozen 1; have f2 := R2.frozen 2; have R2 := Lib.hid R2)
        | (go_at_call 108; (with_reducible refine (AD.out _ _ _ _ _ _ _ hv3 hv4).mono ?_); rintro e w3 ⟨A5, n5, c5, rfl, hp5, hs5, hbb⟩; have D := Lib.hid (D.out.trans (hbb.mono D.out.size)); obtain ⟨⟨⟨p0, p1, p2⟩, q0, q1, q2⟩, R2⟩ := KB.out _ D.out; have t0 := R2.at_ 0 rfl; have t1 := R2.at_ 1 rfl; have t2 := R2.at_ 2 rfl; have f0 := R2.frozen 0; have f1 := R2.frozen 1; have f2 := R2.frozen 2; have R2 := Lib.hid R2))
      exact bodyPost_ret (v := .tuple #[.agg #[.bool false, .slice none 0 0, .int .i64 0], .int .i64 2]) (by simp [results, Tryd.results98, go_sem, t0, t1, t2]) rfl
          (RetD.none (below3 (D0.out.trans (D.out.mono D0.out.size)) (by omega) _ _ _))
end DC
end Go.Proofs.YtnpeokgjfnobmaaDoor

