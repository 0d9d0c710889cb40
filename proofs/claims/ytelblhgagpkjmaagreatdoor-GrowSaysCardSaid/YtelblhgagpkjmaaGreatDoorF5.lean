/-
  Texts glued together for a claim: N9 NDivQ NLen N10 NRootP N11 N12 N13 N14 Str NTextP N15 N16 Ok N17 N18 DPure.
-/
import Derived.Test.YtelblhgagpkjmaaGreatDoorF4
import Derived.Test.YtelblhgagpkjmaaGreatDoorF1
import Derived.Lib.BitFns
import Derived.Lib.Small
import Derived.Lib.Strings
import Derived.Lib.Slices
import Derived.Lib.Walk
import Derived.OneCell
import Derived.Laws.Concat
import Derived.Laws.Strings2
import Derived.Laws.Strings
import Derived.Laws.IdiomStrings
import Derived.Test.YtelblhgagpkjmaaGreatDoorProg
import Derived.WalkKit
import Derived.WalkLawsBesides
import Derived.LoopTactic
import Derived.Lib.Hide
import Derived.Outline
/-
  Package nat: subTimes, quotientLimb.
-/
namespace Go.Proofs.YtelblhgagpkjmaaGreatDoor
set_option linter.unusedVariables false
set_option linter.unusedSimpArgs false
open Go.RowKit
set_option linter.unusedVariables false
namespace NC
open L
open Z (Nz Tz cmpv)
end NC
end Go.Proofs.YtelblhgagpkjmaaGreatDoor

/-
  Plain mathematics: long division: what is shifted first.
-/
namespace Go.Proofs.YtelblhgagpkjmaaGreatDoor.L
set_option linter.unusedVariables false
set_option linter.unusedSimpArgs false
open Z (Nz Tz cmpv)
theorem len_le {L : List Int} {n : Nat} (hL : Lim L) (hn : Nz L) (h1 : lv L < 4294967296 ^ n) : L.length ≤ n := by
  by_cases hne : L = []
  · subst hne; simp
  · have a2 := lv_ge hL hn hne
    rcases Nat.lt_or_ge n L.length with h | h
    · have := pow_mono (show n ≤ L.length - 1 by omega); omega
    · exact h
theorem top_bd {b : List Int} {m : Nat} (hb : Lim b) (hm : b.length = m + 1) : 4294967296 ^ m * b.getD m 0 ≤ lv b ∧ lv b < 4294967296 ^ m * (b.getD m 0 + 1) := by
  have h := lv_split b m (by omega)
  rw [List.drop_of_length_le (by omega)] at h
  have h1 := lv_lt (hb.take m)
  rw [List.length_take, Nat.min_eq_left (by omega)] at h1
  have h2 := lv_nonneg (hb.take m)
  simp only [lv, Int.mul_zero, Int.add_zero] at h
  rw [h]
  refine ⟨by omega, by grind⟩
end Go.Proofs.YtelblhgagpkjmaaGreatDoor.L

/-
  math/bits: Len32, LeadingZeros32. (The proof of Len32 is after the shelf's.)
-/
namespace Go.Proofs.YtelblhgagpkjmaaGreatDoor
set_option linter.unusedVariables false
set_option linter.unusedSimpArgs false
open Go.RowKit
set_option linter.unusedVariables false
namespace NC
open L
theorem tab_size : Lib.len8tab.size = 256 := by decide +kernel
theorem tab_eq : ∀ n : Fin 256, (Lib.len8tab[n.val]'(by rw [tab_size]; exact n.isLt)).toNat = Lib.bitLen n.val := by decide +kernel
theorem tab_at (n : Nat) (h : n < Lib.len8tab.size) : (Lib.len8tab[n]'h).toNat = Lib.bitLen n := tab_eq ⟨n, by rw [← tab_size]; exact h⟩
theorem wrap64_id {n : Int} (h : -9223372036854775808 ≤ n ∧ n ≤ 9223372036854775807) : wrap64 n = n := by unfold wrap64; omega
set_option maxHeartbeats 4000000 in
set_option maxRecDepth 100000 in
theorem Len32_c (x : Int) (w : World) (h0 : 0 ≤ x) (h1 : x ≤ 4294967295) : Calls Tryz.prog 79 #[.int .u32 x] w (fun e w' => e = .returned (.int .i64 (Lib.bitLen x.toNat)) ∧ w = w') := by
  have hsz := tab_size
  go_enter Tryz.func79, Tryz.ntmps79
  go_wp2
  all_goals (go_ret; refine ⟨congrArg Ending.returned (congrArg (Value.int IntKind.i64) ?_), rfl⟩)
  all_goals rw [tab_at]
  all_goals first
    | (have e : (x / 65536 / 256).toNat = x.toNat / 16777216 := by omega
       have l := Lib.bitLen_le (x / 65536 / 256).toNat 8 (by omega) (by omega)
       have s := Lib.bitLen_shift24 x.toNat (by omega) (by omega)
       rw [e] at l ⊢
       rw [wrap64_id (n := ((Lib.bitLen (x.toNat / 16777216) : Nat) : Int)) (by omega), wrap64_id (by omega)]
       omega)
    | (have e : (x / 65536).toNat = x.toNat / 65536 := by omega
       have l := Lib.bitLen_le (x / 65536).toNat 8 (by omega) (by omega)
       have s := Lib.bitLen_shift16 x.toNat (by omega) (by omega)
       rw [e] at l ⊢
       rw [wrap64_id (n := ((Lib.bitLen (x.toNat / 65536) : Nat) : Int)) (by omega), wrap64_id (by omega)]
       omega)
    | (have e : (x / 256).toNat = x.toNat / 256 := by omega
       have l := Lib.bitLen_le (x / 256).toNat 8 (by omega) (by omega)
       have s := Lib.bitLen_shift8 x.toNat (by omega) (by omega)
       rw [e] at l ⊢
       rw [wrap64_id (n := ((Lib.bitLen (x.toNat / 256) : Nat) : Int)) (by omega), wrap64_id (by omega)]
       omega)
    | (have l := Lib.bitLen_le x.toNat 8 (by omega) (by omega)
       rw [wrap64_id (n := ((Lib.bitLen x.toNat : Nat) : Int)) (by omega), wrap64_id (by omega)])
theorem bitLen_bd (x : Int) (h0 : 0 < x) (h1 : x ≤ 4294967295) : ∃ n : Nat, Lib.bitLen x.toNat = n + 1 ∧ n < 32 ∧ (2 : Int) ^ n ≤ x ∧ x < 2 ^ (n + 1) := by
  obtain ⟨a, rfl⟩ := Int.eq_ofNat_of_zero_le (Int.le_of_lt h0)
  have ha : a ≠ 0 := by omega
  have key : ∀ (f b : Nat), b ≠ 0 → b < 2 ^ f → ∃ n : Nat, Lib.bitLenAux f b = n + 1 ∧ 2 ^ n ≤ b ∧ b < 2 ^ (n + 1) := by
    intro f
    induction f with
    | zero => intro b h1 h2; simp at h2; omega
    | succ f ih =>
      intro b h1 h2
      simp only [Lib.bitLenAux, if_neg h1]
      by_cases hb : b / 2 = 0
      · refine ⟨0, ?_, by simp; omega, by simp; omega⟩
        rw [hb]
        cases f <;> simp [Lib.bitLenAux]
      · obtain ⟨n, e1, e2, e3⟩ := ih (b / 2) hb (by rw [Nat.pow_succ] at h2; omega)
        exact ⟨n + 1, by omega, by rw [Nat.pow_succ]; omega, by rw [Nat.pow_succ]; omega⟩
  obtain ⟨n, e1, e2, e3⟩ := key 64 a ha (by omega)
  have l := Lib.bitLen_le a 32 (by omega) (by omega)
  refine ⟨n, e1, ?_, by exact_mod_cast e2, by exact_mod_cast e3⟩
  have : Lib.bitLen a = n + 1 := e1
  omega
end NC
end Go.Proofs.YtelblhgagpkjmaaGreatDoor

/-
  Package nat: divide, Div.
-/
namespace Go.Proofs.YtelblhgagpkjmaaGreatDoor
set_option linter.unusedVariables false
set_option linter.unusedSimpArgs false
open Go.RowKit
set_option linter.unusedVariables false
namespace NC
open L
open Z (Nz Tz cmpv)
theorem Row.grown {w w' : World} {g g' : Nat} {P : List Int} (h : Row .u32 94 w g P) (hg : w.grownBy w' (some g')) (hne : g ≠ g') : Row .u32 94 w' g P := Blk.grown h hg (by simpa using hne)
theorem Row.below' {w w' : World} {g : Nat} {P : List Int} (h : Row .u32 94 w g P) (hb : Below w.heap.size w w') : Row .u32 94 w' g P := Blk.below h hb (Blk.lt h)
def RetD (w : World) (er q r : Int) (e : Ending) (w' : World) : Prop := ∃ A n c A' n' c', e = .returned (.tuple #[.slice A n c, .slice A' n' c', .int .i64 er]) ∧ NV w' (.slice A n c) q ∧ NV w' (.slice A' n' c') r ∧ Below w.heap.size w w'
theorem RetD.err {w w' : World} {er : Int} (hb : Below w.heap.size w w') : RetD w er 0 0 (.returned (.tuple #[.slice none 0 0, .slice none 0 0, .int .i64 er])) w' := ⟨none, 0, 0, none, 0, 0, rfl, NV.nil _ _ _, NV.nil _ _ _, hb⟩
theorem Head.sl {w : World} {B g c : Nat} {l : List Int} (h : Head w B g c l) : Sl .u32 w (.slice (some ⟨g, 0, none⟩) l.length c) l := by
  obtain ⟨_, hc, cs, hb, hw⟩ := h
  refine ⟨_, c, rfl, hc, .inr ⟨⟨g, 0, none⟩, rfl, hb.lt, fun j hj => ?_⟩⟩
  have e : (⟨g, 0, none⟩ : Addr).add j = ⟨g, 0 + j, none⟩ := by unfold Addr.add; split <;> simp_all
  rw [e, hb.at_ _ (hw j hj), List.getD_eq_getElem?_getD, List.getElem?_eq_getElem hj]; rfl
end NC
end Go.Proofs.YtelblhgagpkjmaaGreatDoor

/-
  Plain mathematics: limbs with bits put behind them; the root, two bits at a time.
-/
namespace Go.Proofs.YtelblhgagpkjmaaGreatDoor.L
set_option linter.unusedVariables false
set_option linter.unusedSimpArgs false
open Z (Nz Tz cmpv)
/-- bits being put behind: so many limbs are moved up by r bits; c is carried -/
structure PuI (X : List Int) (r : Nat) (low : Int) (i : Nat) (M : List Int) (c : Int) : Prop where
  len : M.length = X.length
  lim : Lim M
  c0 : 0 ≤ c
  c1 : c < 2 ^ r
  rest : ∀ j, i ≤ j → M.getD j 0 = X.getD j 0
  sum : lv (M.take i) + 4294967296 ^ i * c = 2 ^ r * lv (X.take i) + low
theorem PuI.start {X : List Int} {r : Nat} {low : Int} (h : Lim X) (h0 : 0 ≤ low) (h1 : low < 2 ^ r) : PuI X r low 0 X low := ⟨rfl, h, h0, h1, fun _ _ => rfl, by simp [lv]⟩
theorem PuI.step {X M : List Int} {r i : Nat} {low c q : Int} (h : PuI X r low i M c) (hi : i < X.length) (hq : X.getD i 0 = q) (q0 : 0 ≤ q) (q1 : q < 4294967296) : PuI X r low (i + 1) (M.set i ((q * 2 ^ r + c) % 4294967296)) ((q * 2 ^ r + c) / 4294967296) := by
  have hp := two_pos r
  have c0 := h.c0
  have c1 := h.c1
  have q2 : 0 ≤ q * 2 ^ r := Int.mul_nonneg q0 (Int.le_of_lt hp)
  have e := Int.emod_add_mul_ediv (q * 2 ^ r + c) 4294967296
  refine ⟨by simp [h.len], h.lim.set _ (Int.emod_nonneg _ (by decide)) (Int.emod_lt_of_pos _ (by decide)), Int.ediv_nonneg (by omega) (by decide), ?_, fun j hj => ?_, ?_⟩
  · rw [Int.ediv_lt_iff_lt_mul (by decide)]
    have : (q + 1) * 2 ^ r ≤ 4294967296 * 2 ^ r := Int.mul_le_mul_of_nonneg_right (by omega) (Int.le_of_lt hp)
    grind
  · rw [getD_set (by rw [h.len]; exact hi), if_neg (by omega)]; exact h.rest j (by omega)
  · rw [lv_take_succ, lv_take_succ, getD_set (by rw [h.len]; exact hi), if_pos rfl, List.take_set_of_le (Nat.le_refl _), hq, Int.pow_succ]
    have := h.sum
    have e2 : (4294967296 : Int) ^ i * ((q * 2 ^ r + c) % 4294967296 + 4294967296 * ((q * 2 ^ r + c) / 4294967296)) = 4294967296 ^ i * (q * 2 ^ r + c) := by rw [e]
    grind
/-- the root under way: k pairs of bits are left; R is the root of the others, re what is left of them -/
structure SqI (A : Int) (K k : Nat) (R tw re : Int) : Prop where
  r0 : 0 ≤ R
  eT : tw = 2 * R
  eR : re = A / 4 ^ k - R * R
  le : re ≤ 2 * R
  re0 : 0 ≤ re
  top : R = 0 → k = K
theorem SqI.start {A : Int} {K : Nat} (h0 : 0 ≤ A) (h : A < 4 ^ K) : SqI A K K 0 0 0 := ⟨by omega, by omega, by rw [Int.ediv_eq_zero_of_lt h0 h]; omega, by omega, by omega, fun _ => rfl⟩
theorem four_step (A : Int) (k : Nat) : A / 4 ^ k = 4 * (A / 4 ^ (k + 1)) + A / 4 ^ k % 4 := by
  have e := Int.emod_add_mul_ediv (A / 4 ^ k) 4
  have hp : (0 : Int) ≤ 4 ^ k := Int.le_of_lt (Int.pow_pos (by decide))
  rw [Int.pow_succ, ← Int.ediv_ediv_of_nonneg hp]
  omega
theorem SqI.less {A R tw re p : Int} {K k : Nat} (h : SqI A K (k + 1) R tw re) (hK : 4 ^ (K - 1) ≤ A) (hp : p = A / 4 ^ k % 4) (hlt : re * 4 + p < tw * 2 + 1) : SqI A K k (2 * R) (tw * 2) (re * 4 + p) ∧ 0 < R := by
  have e := four_step A k
  have h1 := h.eT
  have h2 := h.eR
  have h3 := h.r0
  have h4 := h.re0
  have p0 : 0 ≤ A / 4 ^ k % 4 := Int.emod_nonneg _ (by decide)
  have hR : 0 < R := by
    rcases Int.lt_or_eq_of_le h3 with h5 | h5
    · exact h5
    · exfalso
      have hk := h.top h5.symm
      have a1 : (1 : Int) ≤ A / 4 ^ k := by
        rw [Int.le_ediv_iff_mul_le (Int.pow_pos (by decide))]
        have : K - 1 = k := by omega
        rw [this] at hK
        omega
      rw [← h5] at h1 h2
      simp at h2
      omega
  refine ⟨⟨by omega, by omega, ?_, by omega, by omega, fun h5 => by omega⟩, hR⟩
  rw [e, h2, hp]; grind
theorem SqI.more {A R tw re p : Int} {K k : Nat} (h : SqI A K (k + 1) R tw re) (hp : p = A / 4 ^ k % 4) (hge : tw * 2 + 1 ≤ re * 4 + p) : SqI A K k (2 * R + 1) (tw * 2 + 1 + 1) (re * 4 + p - (tw * 2 + 1)) := by
  have e := four_step A k
  have h1 := h.eT
  have h2 := h.eR
  have h3 := h.r0
  have h4 := h.le
  have p1 : A / 4 ^ k % 4 < 4 := Int.emod_lt_of_pos _ (by decide)
  refine ⟨by omega, by omega, ?_, by omega, by omega, fun h5 => by omega⟩
  rw [e, h2, hp, h1]; grind
theorem SqI.done {A R tw re : Int} {K : Nat} (h : SqI A K 0 R tw re) : R * R + re = A ∧ 0 ≤ re ∧ re ≤ 2 * R ∧ 0 ≤ R := by
  have := h.eR
  simp at this
  exact ⟨by omega, h.re0, h.le, h.r0⟩
end Go.Proofs.YtelblhgagpkjmaaGreatDoor.L

/-
  Package nat: push: a slice of the call's own, written in place and appended to.
-/
namespace Go.Proofs.YtelblhgagpkjmaaGreatDoor
set_option linter.unusedVariables false
set_option linter.unusedSimpArgs false
open Go.RowKit
set_option linter.unusedVariables false
namespace NC
open L
open Z (Nz Tz cmpv)
abbrev OwnU (w : World) (base : Nat) (v : Value) (X : List Int) : Prop := Own .u32 94 w base v X
section
variable {w : World} {base g n c : Nat} {X : List Int}
theorem OwnU.cell (h : OwnU w base (.slice (some ⟨g, 0, none⟩) n c) X) (j : Nat) (hj : j < X.length) : w.cell? ⟨g, j, none⟩ = some (.int .u32 (X.getD j 0)) := by
  have hn : n = X.length := (Own.sl h).len_.1
  subst hn
  have := World.ownsRow.cellAt h j (by omega)
  rw [this, List.getElem?_map, List.getD_eq_getElem?_getD, List.getElem?_eq_getElem hj]; rfl
theorem OwnU.frozen (h : OwnU w base (.slice (some ⟨g, 0, none⟩) n c) X) (j : Nat) : w.frozen? ⟨g, j, none⟩ = false := by
  have hn : n = X.length := (Own.sl h).len_.1
  subst hn
  exact World.ownsRow.frozenAt h j
theorem OwnU.set_ (h : OwnU w base (.slice (some ⟨g, 0, none⟩) n c) X) (j : Nat) (z : Int) : OwnU (w.setCell ⟨g, j, none⟩ (.int .u32 z)) base (.slice (some ⟨g, 0, none⟩) n c) (X.set j z) := by
  have hn : n = X.length := (Own.sl h).len_.1
  subst hn
  have := (World.ownsRow.stored h j (.int .u32 z)).1
  unfold OwnU Own
  rw [List.map_set, List.length_set]
  exact this
theorem OwnU.form {v : Value} (h : OwnU w base v X) : (v = .slice none 0 0 ∧ X = []) ∨ ∃ g c, v = .slice (some ⟨g, 0, none⟩) X.length c ∧ base ≤ g ∧ g < w.heap.size ∧ X.length ≤ c := by
  rcases h.2 with ⟨rfl, h0⟩ | ⟨g, cap, cur, rfl, hg, hgg, hc, _⟩
  · exact .inl ⟨rfl, List.eq_nil_of_length_eq_zero h0⟩
  · exact .inr ⟨g, cap, rfl, hg, (Array.getElem?_eq_some_iff.1 hgg).1, hc⟩
end
end NC
end Go.Proofs.YtelblhgagpkjmaaGreatDoor

/-
  Package nat: squareRoot.
-/
namespace Go.Proofs.YtelblhgagpkjmaaGreatDoor
set_option linter.unusedVariables false
set_option linter.unusedSimpArgs false
open Go.RowKit
set_option linter.unusedVariables false
namespace NC
open L
open Z (Nz Tz cmpv)
def Sep (v u : Value) : Prop := ∀ g, v.ownBlock = some g → u.ownBlock = some g → False
theorem Sep.symm {v u : Value} (h : Sep v u) : Sep u v := fun g h1 h2 => h g h2 h1
section
variable {w w' : World} {base : Nat} {v u u' : Value} {X : List Int}
theorem OwnU.take {A : Option Addr} {n c m : Nat} (h : OwnU w base (.slice A n c) X) (hm : m ≤ n) (hA : A ≠ none) : OwnU w base (.slice A m c) (X.take m) := by
  have hn : n = X.length := (Own.sl h).len_.1
  have hl : (X.take m).length = m := by rw [List.length_take, ← hn]; exact Nat.min_eq_left hm
  unfold OwnU Own
  rw [hl]
  refine ⟨by rw [List.length_map, hl]; omega, ?_⟩
  rcases h.2 with ⟨e, _⟩ | ⟨g, cap, cur, e, hg, hgg, hc, hmx, hsz, htk⟩
  · injection e with e1; exact absurd e1 hA
  · injection e with e1 e2 e3
    subst e1 e3
    refine .inr ⟨g, _, cur, rfl, hg, hgg, by omega, hmx, hsz, ?_⟩
    rw [List.map_take, ← htk, List.take_take, Nat.mul_one, Nat.mul_one, Nat.min_eq_left (by omega)]
end
end NC
end Go.Proofs.YtelblhgagpkjmaaGreatDoor

/-
  Package nat: squareRoot, Root; Bits.
-/
namespace Go.Proofs.YtelblhgagpkjmaaGreatDoor
set_option linter.unusedVariables false
set_option linter.unusedSimpArgs false
open Go.RowKit
set_option linter.unusedVariables false
namespace NC
open L
open Z (Nz Tz cmpv)
/-- limbs of the call's own in normal form -/
structure ON (w : World) (base : Nat) (v : Value) (X : List Int) (z : Int) : Prop where
  o : OwnU w base v X
  l : Lim X
  n : Nz X
  v : lv X = z
theorem ON.drewN {w : World} {base : Nat} {v : Value} {X : List Int} {z : Int} (h : ON w base v X z) (k : Nat) : ON (w.drewN k) base v X z := ⟨Own.drewN h.o k, h.l, h.n, h.v⟩
theorem ON.nil (w : World) (base : Nat) : ON w base (.slice none 0 0) [] 0 := ⟨Own.nil _ _ _ _, Lim.nil, (by intro h; exact absurd rfl h), rfl⟩
theorem ON.len {w : World} {base : Nat} {v : Value} {X : List Int} {z : Int} (h : ON w base v X z) (hz : z < 4294967296 ^ 500) : X.length ≤ 500 := len_le h.l h.n (by rw [h.v]; exact hz)
end NC
end Go.Proofs.YtelblhgagpkjmaaGreatDoor

/-
  Package nat: Bits, Root.
-/
namespace Go.Proofs.YtelblhgagpkjmaaGreatDoor
set_option linter.unusedVariables false
set_option linter.unusedSimpArgs false
open Go.RowKit
set_option linter.unusedVariables false
namespace NC
open L
open Z (Nz Tz cmpv)
/-- how many bits -/
def RetBits (w : World) (er z : Int) (e : Ending) (w' : World) : Prop := ∃ n : Nat, e = .returned (.tuple #[.int .i64 n, .int .i64 er]) ∧ n ≤ 12800 ∧ Hid (er = 0 → z < 2 ^ n ∧ (n = 0 ∨ 2 ^ (n - 1) ≤ z)) ∧ Hid (er ≠ 0 → n = 0) ∧ w = w'
theorem Bits_c (v : Value) (l : List Int) (w : World) (hs : Sl .u32 w v l) (hl : l.length ≤ 9223372036854775807) (Ll : Lim l) : Calls Tryz.prog 59 #[v] w (RetBits w (chk l) (lv l)) := by
  have C := Lib.hid (Check_c v l w hs hl)
  obtain ⟨A, c, rfl, hc⟩ := hs.form
  obtain ⟨r, hr⟩ : ∃ r, r = chk l := ⟨_, rfl⟩
  rw [← hr] at C ⊢
  by_cases h : r = 0
  · have h1 := chk_ok.1 (hr.symm.trans h)
    by_cases hne : l = []
    · subst hne
      have e0 : (([] : List Int).length : Int) = 0 := by simp
      clear hs hl Ll hr h1
      subst h
      simp only [List.length_nil] at C hc ⊢
      go_enter Tryz.func59, Tryz.ntmps59
      go_wp2_with (first | (go_at_call 78; (with_reducible refine (C.out).mono ?_); rintro e w' ⟨rfl, rfl⟩))
      go_ret2
      exact ⟨0, rfl, by omega, fun _ => ⟨by simp [lv], .inl rfl⟩, fun h => rfl, rfl⟩
    · obtain ⟨m, hm⟩ : ∃ m, l.length = m + 1 := ⟨l.length - 1, by have := List.length_pos_iff.2 hne; omega⟩
      obtain ⟨ad, c', e, hc', _, hcell⟩ := hs.at_ m (by omega)
      injection e with e1 e2 e3
      subst e1
      have htop : 0 < l.getD m 0 := by
        have h2 := h1.2 hne
        rw [List.getLast_eq_getElem] at h2
        have h3 : l.getD m 0 = l[l.length - 1]'(by omega) := by
          rw [List.getD_eq_getElem?_getD, List.getElem?_eq_getElem (by omega)]
          simp [hm]
        have := Ll.at_ m
        rw [h3] at this ⊢
        omega
      have bt := Ll.at_ m
      obtain ⟨t1, t2⟩ := top_bd Ll hm
      obtain ⟨n, hn1, hn2, hn3, hn4⟩ := bitLen_bd (l.getD m 0) htop (by omega)
      have LN := Len32_c (l.getD m 0) w (by omega) (by omega)
      rw [hn1] at LN
      have LN := Lib.hid LN
      have hp := pow_pos m
      have b1 : lv l < 2 ^ (32 * m + n + 1) := by
        rw [show 32 * m + n + 1 = 32 * m + (n + 1) by omega, Int.pow_add, ← pow_two]
        exact Int.lt_of_lt_of_le t2 (Int.mul_le_mul_of_nonneg_left (by omega) (Int.le_of_lt hp))
      have b2 : 2 ^ (32 * m + n) ≤ lv l := by
        rw [Int.pow_add, ← pow_two]
        exact Int.le_trans (Int.mul_le_mul_of_nonneg_left hn3 (Int.le_of_lt hp)) t1
      have HB := Lib.hid (And.intro b1 b2)
      have hm4 : m + 1 ≤ 400 := by have := h1.1; omega
      rw [hm] at hc C ⊢
      generalize l.getD m 0 = tp at *
      clear hs hl Ll hr h1 hne hm htop t1 t2 hn1 hn3 hn4 b1 b2 hp e2 e3 hc'
      subst h
      have e1 : ((m : Int) + 1 == 0) = false := by simp; omega
      go_enter Tryz.func59, Tryz.ntmps59
      go_wp2_with (first | (go_at_call 78; (with_reducible refine (C.out).mono ?_); rintro e w' ⟨rfl, rfl⟩) | (go_at_call 79; (with_reducible refine (LN.out).mono ?_); rintro e w' ⟨rfl, rfl⟩))
      go_ret2
      refine ⟨32 * m + n + 1, ?_, by omega, fun _ => ⟨HB.out.1, .inr (by simpa using HB.out.2)⟩, fun h => absurd rfl h, rfl⟩
      have e5 : ((32 * m + n + 1 : Nat) : Int) = (m : Int) * 32 + ((n : Int) + 1) := by omega
      rw [e5]
      rfl
  · have e1 : (r != 0) = true := by simp [h]
    clear hs hl Ll hr
    have H := Lib.hid h
    clear h
    go_enter Tryz.func59, Tryz.ntmps59
    go_wp2_with (first | (go_at_call 78; (with_reducible refine (C.out).mono ?_); rintro e w' ⟨rfl, rfl⟩))
    go_ret2
    exact ⟨0, rfl, by omega, fun h => absurd h H.out, fun _ => rfl, rfl⟩
end NC
end Go.Proofs.YtelblhgagpkjmaaGreatDoor

/-
  Strings as lists of bytes; the decimal text of a number.
-/
namespace Go.Proofs.YtelblhgagpkjmaaGreatDoor
set_option linter.unusedVariables false
set_option linter.unusedSimpArgs false
open Go.RowKit
set_option linter.unusedVariables false
def bs (L : List UInt8) : ByteArray := ⟨L.toArray⟩
end Go.Proofs.YtelblhgagpkjmaaGreatDoor

/-
  Plain mathematics: decimal digits, the lowest first; noughts at the end; a list turned round in place; division by a limb.
-/
namespace Go.Proofs.YtelblhgagpkjmaaGreatDoor.L
set_option linter.unusedVariables false
set_option linter.unusedSimpArgs false
open Z (Nz Tz cmpv)
/-- division by one limb under way, from the highest one on -/
structure DbI (X : List Int) (q : Int) (k : Nat) (M : List Int) (r : Int) : Prop where
  len : M.length = X.length
  lim : Lim M
  r0 : 0 ≤ r
  r1 : r < q
  rest : ∀ j, j < k → M.getD j 0 = X.getD j 0
  sum : lv (M.drop k) * q + r = lv (X.drop k)
theorem DbI.start {X : List Int} {q : Int} (h : Lim X) (h0 : 0 < q) : DbI X q X.length X 0 := ⟨rfl, h, by omega, h0, fun _ _ => rfl, by simp [lv]⟩
theorem DbI.step {X M : List Int} {q r x : Int} {k : Nat} (h : DbI X q (k + 1) M r) (hk : k < X.length) (hx : X.getD k 0 = x) (x0 : 0 ≤ x) (x1 : x < 4294967296) :
    DbI X q k (M.set k ((r * 4294967296 + x) / q)) ((r * 4294967296 + x) % q) ∧ (r * 4294967296 + x) / q < 4294967296 ∧ 0 ≤ (r * 4294967296 + x) / q := by
  have r0 := h.r0
  have r1 := h.r1
  have hq : 0 < q := by omega
  have e := Int.emod_add_mul_ediv (r * 4294967296 + x) q
  have z0 : 0 ≤ (r * 4294967296 + x) / q := Int.ediv_nonneg (by omega) (by omega)
  have z1 : (r * 4294967296 + x) / q < 4294967296 := by rw [Int.ediv_lt_iff_lt_mul hq]; omega
  refine ⟨⟨by simp [h.len], h.lim.set _ z0 z1, Int.emod_nonneg _ (by omega), Int.emod_lt_of_pos _ hq, fun j hj => ?_, ?_⟩, z1, z0⟩
  · rw [getD_set (by rw [h.len]; exact hk), if_neg (by omega)]; exact h.rest j (by omega)
  · have hkM : k < M.length := by rw [h.len]; exact hk
    have e1 := lv_drop (L := M.set k ((r * 4294967296 + x) / q)) k (by simp [h.len]; exact hk)
    rw [getD_set (by rw [h.len]; exact hk), if_pos rfl, show (M.set k ((r * 4294967296 + x) / q)).drop (k + 1) = M.drop (k + 1) by rw [List.drop_set, if_pos (by omega)]] at e1
    rw [e1, lv_drop (L := X) k hk, hx, ← h.sum]
    grind
theorem DbI.done {X M : List Int} {q r : Int} (h : DbI X q 0 M r) : lv M = lv X / q ∧ r = lv X % q := by
  have e := h.sum
  simp only [List.drop_zero] at e
  have r0 := h.r0
  have r1 := h.r1
  rw [← e]
  refine ⟨?_, ?_⟩
  · rw [Int.add_comm, Int.add_mul_ediv_right _ _ (by omega), Int.ediv_eq_zero_of_lt r0 r1]; omega
  · rw [Int.add_comm, Int.add_mul_emod_self_right, Int.emod_eq_of_lt r0 r1]
/-- a list being turned round in place -/
structure RvI (X : List Int) (i : Nat) (M : List Int) : Prop where
  len : M.length = X.length
  cell : ∀ t, t < X.length → M.getD t 0 = if t < i ∨ X.length - 1 - i < t then X.getD (X.length - 1 - t) 0 else X.getD t 0
theorem RvI.start (X : List Int) : RvI X 0 X := ⟨rfl, fun t ht => by rw [if_neg (by omega)]⟩
theorem RvI.step {X M : List Int} {i : Nat} (h : RvI X i M) (hi : 2 * i + 1 < X.length) : RvI X (i + 1) ((M.set i (M.getD (X.length - 1 - i) 0)).set (X.length - 1 - i) (M.getD i 0)) := by
  have hl := h.len
  have hl1 : (M.set i (M.getD (X.length - 1 - i) 0)).length = X.length := by simp [hl]
  refine ⟨by simp [hl], fun t ht => ?_⟩
  rw [getD_set (by omega), getD_set (by omega)]
  have c1 := h.cell i (by omega)
  have c2 := h.cell (X.length - 1 - i) (by omega)
  rw [if_neg (by omega)] at c1 c2
  by_cases e1 : t = X.length - 1 - i
  · subst e1
    rw [if_pos rfl, if_pos (by omega), c1]
    congr 1; omega
  · rw [if_neg e1]
    by_cases e2 : t = i
    · subst e2
      rw [if_pos rfl, if_pos (by omega), c2]
    · rw [if_neg e2, h.cell t ht]
      by_cases e3 : t < i ∨ X.length - 1 - i < t
      · rw [if_pos e3, if_pos (by omega)]
      · rw [if_neg e3, if_neg (by omega)]
theorem RvI.done {X M : List Int} {i : Nat} (h : RvI X i M) (hi : X.length ≤ 2 * i + 1) : M = X.reverse := by
  have hl := h.len
  apply List.ext_getElem (by simp [hl])
  intro t h1 h2
  have c := h.cell t (by omega)
  rw [List.getElem_reverse]
  rw [List.getD_eq_getElem?_getD, List.getElem?_eq_getElem (by omega)] at c
  by_cases e : t < i ∨ X.length - 1 - i < t
  · rw [if_pos e, List.getD_eq_getElem?_getD, List.getElem?_eq_getElem (by omega)] at c
    exact c
  · rw [if_neg e, List.getD_eq_getElem?_getD, List.getElem?_eq_getElem (by omega)] at c
    have : X.length - 1 - t = t := by omega
    simp only [this]
    exact c
end Go.Proofs.YtelblhgagpkjmaaGreatDoor.L

/-
  Package nat: divideBy; bytes.TrimRight and slices.Reverse of bytes.
-/
namespace Go.Proofs.YtelblhgagpkjmaaGreatDoor
set_option linter.unusedVariables false
set_option linter.unusedSimpArgs false
open Go.RowKit
set_option linter.unusedVariables false
namespace NC
open L
open Z (Nz Tz cmpv)
abbrev OwnB (w : World) (base : Nat) (v : Value) (X : List Int) : Prop := Own .u8 5 w base v X
section
variable {w : World} {base g n c : Nat} {X : List Int}
theorem OwnB.cell (h : OwnB w base (.slice (some ⟨g, 0, none⟩) n c) X) (j : Nat) (hj : j < X.length) : w.cell? ⟨g, j, none⟩ = some (.int .u8 (X.getD j 0)) := by
  have hn : n = X.length := (Own.sl h).len_.1
  subst hn
  have := World.ownsRow.cellAt h j (by omega)
  rw [this, List.getElem?_map, List.getD_eq_getElem?_getD, List.getElem?_eq_getElem hj]; rfl
theorem OwnB.frozen (h : OwnB w base (.slice (some ⟨g, 0, none⟩) n c) X) (j : Nat) : w.frozen? ⟨g, j, none⟩ = false := by
  have hn : n = X.length := (Own.sl h).len_.1
  subst hn
  exact World.ownsRow.frozenAt h j
theorem OwnB.set_ (h : OwnB w base (.slice (some ⟨g, 0, none⟩) n c) X) (j : Nat) (z : Int) : OwnB (w.setCell ⟨g, j, none⟩ (.int .u8 z)) base (.slice (some ⟨g, 0, none⟩) n c) (X.set j z) := by
  have hn : n = X.length := (Own.sl h).len_.1
  subst hn
  have := (World.ownsRow.stored h j (.int .u8 z)).1
  unfold OwnB Own
  rw [List.map_set, List.length_set]
  exact this
theorem OwnB.take {A : Option Addr} {n c m : Nat} (h : OwnB w base (.slice A n c) X) (hm : m ≤ n) (hA : A ≠ none) : OwnB w base (.slice A m c) (X.take m) := by
  have hn : n = X.length := (Own.sl h).len_.1
  have hl : (X.take m).length = m := by rw [List.length_take, ← hn]; exact Nat.min_eq_left hm
  unfold OwnB Own
  rw [hl]
  refine ⟨by rw [List.length_map, hl]; omega, ?_⟩
  rcases h.2 with ⟨e, _⟩ | ⟨g, cap, cur, e, hg, hgg, hc, hmx, hsz, htk⟩
  · injection e with e1; exact absurd e1 hA
  · injection e with e1 e2 e3
    subst e1 e3
    refine .inr ⟨g, _, cur, rfl, hg, hgg, by omega, hmx, hsz, ?_⟩
    rw [List.map_take, ← htk, List.take_take, Nat.mul_one, Nat.mul_one, Nat.min_eq_left (by omega)]
end
end NC
end Go.Proofs.YtelblhgagpkjmaaGreatDoor

/-
  Package nat: Text.
-/
namespace Go.Proofs.YtelblhgagpkjmaaGreatDoor
set_option linter.unusedVariables false
set_option linter.unusedSimpArgs false
open Go.RowKit
set_option linter.unusedVariables false
namespace NC
open L
open Z (Nz Tz cmpv)
theorem Head.kept {w w' : World} {B g c : Nat} {l : List Int} {row : Option Nat} (h : Head w B g c l) (hg : w.grownBy w' row) (hr : row ≠ some g) : Head w' B g c l := by
  obtain ⟨h1, h2, cs, hb, hw⟩ := h
  exact ⟨h1, h2, cs, Blk.grown hb hg (fun e => hr e.symm), hw⟩
theorem Head.alloc {w : World} {B g c : Nat} {l : List Int} (h : Head w B g c l) (o : Obj) : Head (w.alloc o) B g c l := by
  obtain ⟨h1, h2, cs, hb, hw⟩ := h
  exact ⟨h1, h2, cs, hb.alloc o, hw⟩
theorem Head.lt {w : World} {B g c : Nat} {l : List Int} (h : Head w B g c l) : g < w.heap.size := by
  obtain ⟨_, _, cs, hb, _⟩ := h
  exact hb.lt
/-- a rest of limbs that is being divided -/
structure RM (w : World) (B g n c : Nat) (z : Nat) (M : List Int) : Prop where
  h : Head w B g c M
  n : M.length = n
  l : Lim M
  nz : Nz M
  eq : lv M = z
theorem Head.take {w : World} {B g c m : Nat} {l : List Int} (h : Head w B g c l) (hm : m ≤ l.length) : Head w B g c (l.take m) := by
  obtain ⟨h1, h2, cs, hb, hw⟩ := h
  refine ⟨h1, by rw [List.length_take]; omega, cs, hb, fun j hj => ?_⟩
  rw [List.length_take] at hj
  rw [hw j (by omega), List.getD_eq_getElem?_getD, List.getD_eq_getElem?_getD, List.getElem?_take, if_pos (by omega)]
end NC
end Go.Proofs.YtelblhgagpkjmaaGreatDoor

/-
  ulpkeep.ok: true just where all errors handed in are OK; it only reads.
-/
namespace Go.Proofs.YtelblhgagpkjmaaGreatDoor
set_option linter.unusedVariables false
set_option linter.unusedSimpArgs false
open Go.RowKit
set_option linter.unusedVariables false
namespace OkC
end OkC
end Go.Proofs.YtelblhgagpkjmaaGreatDoor

/-
  slices.Equal of limbs; package nat: Shift up, and its errors; ulpkeep.natLives.
-/
namespace Go.Proofs.YtelblhgagpkjmaaGreatDoor
set_option linter.unusedVariables false
set_option linter.unusedSimpArgs false
open Go.RowKit
set_option linter.unusedVariables false
namespace NC
open L
open Z (Nz Tz cmpv)
/-- what Shift tells -/
def RetSh (w : World) (er z : Int) (b : Bool) (e : Ending) (w' : World) : Prop := ∃ A n c, e = .returned (.tuple #[.slice A n c, .bool b, .int .i64 er]) ∧ NV w' (.slice A n c) z ∧ Below w.heap.size w w'
theorem RetSh.err {w w' : World} {er : Int} (hb : Below w.heap.size w w') : RetSh w er 0 false (.returned (.tuple #[.slice none 0 0, .bool false, .int .i64 er])) w' := ⟨none, 0, 0, rfl, NV.nil _ _ _, hb⟩
theorem ShiftErr_c (v : Value) (l : List Int) (n : Int) (w : World) (hs : Sl .u32 w v l) (hl : l.length ≤ 9223372036854775807) (h : chk l ≠ 0) : Calls Tryz.prog 85 #[v, .int .i64 n] w (RetSh w (chk l) 0 false) := by
  have C := Lib.hid (Check_c v l w hs hl)
  obtain ⟨r, hr⟩ : ∃ r, r = chk l := ⟨_, rfl⟩
  rw [← hr] at C h ⊢
  have e1 : (r != 0) = true := by simp [h]
  clear hs hl hr h
  go_enter Tryz.func85, Tryz.ntmps85
  go_wp2_with (first | (go_at_call 78; (with_reducible refine (C.out).mono ?_); rintro e w' ⟨rfl, rfl⟩))
  go_ret3
  exact RetSh.err (Below.refl _ _)
theorem ShiftFar_c (v : Value) (l : List Int) (n : Int) (w : World) (hs : Sl .u32 w v l) (hl : l.length ≤ 9223372036854775807) (h : chk l = 0) (hn : n < -20000 ∨ 20000 < n) : Calls Tryz.prog 85 #[v, .int .i64 n] w (RetSh w 1 0 false) := by
  have C := Lib.hid (Check_c v l w hs hl)
  rw [h] at C
  clear hs hl h
  rcases hn with hn | hn
  · go_enter Tryz.func85, Tryz.ntmps85
    go_wp2_with (first | (go_at_call 78; (with_reducible refine (C.out).mono ?_); rintro e w' ⟨rfl, rfl⟩))
    go_ret3
    exact RetSh.err (Below.refl _ _)
  · have h2 : ¬ n < -20000 := by omega
    go_enter Tryz.func85, Tryz.ntmps85
    go_wp2_with (first | (go_at_call 78; (with_reducible refine (C.out).mono ?_); rintro e w' ⟨rfl, rfl⟩))
    go_ret3
    exact RetSh.err (Below.refl _ _)
theorem ShiftUp_c (v : Value) (l : List Int) (n : Nat) (w : World) (hs : Sl .u32 w v l) (Ll : Lim l) (h : chk l = 0) (hn : n ≤ 20000) : Calls Tryz.prog 85 #[v, .int .i64 n] w (RetSh w 0 (lv l * 2 ^ n) false) := by
  have h1 := chk_ok.1 h
  have C := Lib.hid (Check_c v l w hs (by omega))
  have S := Lib.hid (shiftUp_c v l n w hs Ll (by omega) (by omega))
  rw [h] at C
  generalize lv l * 2 ^ n = z at *
  have h2 : ¬ (n : Int) < -20000 := by omega
  have h3 : ¬ (20000 : Int) < n := by omega
  have h4 : ¬ (n : Int) < 0 := by omega
  clear hs Ll h h1
  go_enter Tryz.func85, Tryz.ntmps85
  go_wp2_with (first | (go_at_call 78; (with_reducible refine (C.out).mono ?_); rintro e w' ⟨rfl, rfl⟩) | (go_at_call 111; (with_reducible refine (S.out).mono ?_); rintro e w2 ⟨A, m, c, rfl, hv, hb⟩))
  go_ret3
  exact ⟨A, m, c, rfl, hv, hb⟩
end NC
end Go.Proofs.YtelblhgagpkjmaaGreatDoor

/-
  Package nat's contracts by numbers: what each argument tells, and its error.
-/
namespace Go.Proofs.YtelblhgagpkjmaaGreatDoor
set_option linter.unusedVariables false
set_option linter.unusedSimpArgs false
open Go.RowKit
set_option linter.unusedVariables false
namespace NC
open L
open Z (Nz Tz cmpv)
/-- limbs that tell 'z', and what Check tells of them -/
def PV (w : World) (v : Value) (er z : Int) : Prop := ∃ l, Sl .u32 w v l ∧ Lim l ∧ l.length ≤ 9223372036854775807 ∧ chk l = er ∧ lv l = z
def big3 : Int := 4294967296 ^ 3000
theorem PV.below {w w' : World} {v : Value} {er z : Int} (h : PV w v er z) (hb : Below w.heap.size w w') : PV w' v er z := by
  obtain ⟨l, h1, h2⟩ := h
  exact ⟨l, h1.below hb, h2⟩
theorem PV.drewN {w : World} {v : Value} {er z : Int} (h : PV w v er z) (k : Nat) : PV (w.drewN k) v er z := h
theorem PV.nv {w : World} {v : Value} {z : Int} (h : PV w v 0 z) : NV w v z := by
  obtain ⟨l, h1, h2, h3, h4, h5⟩ := h
  exact ⟨l, h1, h2, (chk_ok.1 h4).2, h5⟩
theorem PV.small {w : World} {v : Value} {er z : Int} (h : PV w v er z) : 0 ≤ z ∧ (er = 0 → z < 4294967296 ^ 400) := by
  obtain ⟨l, h1, h2, h3, h4, h5⟩ := h
  refine ⟨by rw [← h5]; exact lv_nonneg h2, fun e => ?_⟩
  rw [e] at h4
  rw [← h5]
  exact Int.lt_of_lt_of_le (lv_lt h2) (pow_mono (chk_ok.1 h4).1)
/-- the error of limbs in normal form: too many -/
def erz (z : Int) : Int := if z < 4294967296 ^ 400 then 0 else 2
theorem NV.pv {w : World} {v : Value} {z : Int} (h : NV w v z) (hz : z < big3) : PV w v (erz z) z := by
  obtain ⟨l, h1, h2, h3, h4⟩ := h
  have hl : l.length ≤ 3000 := len_le h2 h3 (by rw [h4]; exact hz)
  refine ⟨l, h1, h2, by omega, ?_, h4⟩
  unfold erz
  by_cases hs : z < 4294967296 ^ 400
  · rw [if_pos hs]
    exact chk_ok.2 ⟨len_le h2 h3 (by rw [h4]; exact hs), h3⟩
  · rw [if_neg hs]
    unfold chk
    rw [if_pos]
    rcases Nat.lt_or_ge 400 l.length with h | h
    · exact h
    · have := Int.lt_of_lt_of_le (lv_lt h2) (pow_mono h)
      omega
/-- the first error of two -/
def ee (a b : Int) : Int := if a ≠ 0 then a else b
theorem ee0 {a b : Int} : ee a b = 0 ↔ a = 0 ∧ b = 0 := by
  unfold ee
  by_cases h : a = 0
  · rw [if_neg (by simpa using h)]; simp [h]
  · rw [if_pos h]; simp [h]
theorem big3_pos : (0 : Int) < big3 := pow_pos 3000
theorem big3_bds {a b : Int} (h1 : a < 4294967296 ^ 400) (h2 : b < 4294967296 ^ 400) (h3 : 0 ≤ a) (h4 : 0 ≤ b) : a + b < big3 ∧ a * b < big3 ∧ a < big3 ∧ b < big3 := by
  unfold big3
  have e : (4294967296 : Int) ^ 400 * 4294967296 ^ 400 = 4294967296 ^ 800 := by rw [← Int.pow_add]
  have h5 : a * b ≤ 4294967296 ^ 400 * 4294967296 ^ 400 := Int.mul_le_mul (Int.le_of_lt h1) (Int.le_of_lt h2) h4 (Int.le_of_lt (pow_pos _))
  have h6 : (4294967296 : Int) ^ 801 = 4294967296 ^ 800 * 4294967296 := Int.pow_succ _ _
  have h7 := pow_pos 800
  have h8 : (4294967296 : Int) ^ 801 ≤ 4294967296 ^ 3000 := pow_mono (by decide)
  have h9 : (4294967296 : Int) ^ 400 ≤ 4294967296 ^ 800 := pow_mono (by decide)
  generalize (4294967296 : Int) ^ 3000 = c3000 at *
  generalize (4294967296 : Int) ^ 801 = c801 at *
  generalize (4294967296 : Int) ^ 800 = c800 at *
  generalize (4294967296 : Int) ^ 400 = c400 at *
  rw [e] at h5
  omega
/-- limbs that are the result of a call, and an error -/
def RetP (w : World) (er z : Int) (e : Ending) (w' : World) : Prop := ∃ A n c, e = .returned (.tuple #[.slice A n c, .int .i64 er]) ∧ PV w' (.slice A n c) (erz z) z ∧ NV w' (.slice A n c) z ∧ Below w.heap.size w w'
theorem RetL.p {w w' : World} {er z : Int} {e : Ending} (h : RetL w er z e w') (hz : z < big3) : RetP w er z e w' := by
  obtain ⟨A, n, c, rfl, hv, hb⟩ := h
  exact ⟨A, n, c, rfl, hv.pv hz, hv, hb⟩
theorem Add_p {u v : Value} {e1 e2 a b : Int} {w : World} (h1 : PV w u e1 a) (h2 : PV w v e2 b) : Calls Tryz.prog 87 #[u, v] w (RetP w (ee e1 e2) (if ee e1 e2 = 0 then a + b else 0)) := by
  have s1 := h1.small
  have s2 := h2.small
  obtain ⟨l, l1, l2, l3, l4, l5⟩ := h1
  obtain ⟨m, m1, m2, m3, m4, m5⟩ := h2
  have hc : chk2 l m = ee e1 e2 := by unfold chk2 ee; rw [l4, m4]
  have h := Add_c u v l m w l1 m1 l3 m3 l2 m2
  rw [hc, l5, m5] at h
  refine h.mono fun e w' h => RetL.p h ?_
  by_cases h0 : ee e1 e2 = 0
  · rw [if_pos h0]
    have h3 := ee0.1 h0
    exact (big3_bds (s1.2 h3.1) (s2.2 h3.2) s1.1 s2.1).1
  · rw [if_neg h0]; exact big3_pos
def es (e1 e2 a b : Int) : Int := if ee e1 e2 = 0 then (if a < b then 1 else 0) else ee e1 e2
theorem Sub_p {u v : Value} {e1 e2 a b : Int} {w : World} (h1 : PV w u e1 a) (h2 : PV w v e2 b) : Calls Tryz.prog 92 #[u, v] w (RetP w (es e1 e2 a b) (if es e1 e2 a b = 0 then a - b else 0)) := by
  have s1 := h1.small
  have s2 := h2.small
  obtain ⟨l, l1, l2, l3, l4, l5⟩ := h1
  obtain ⟨m, m1, m2, m3, m4, m5⟩ := h2
  have hc : errSub l m = es e1 e2 a b := by unfold errSub es chk2 ee; rw [l4, m4, l5, m5]
  have h := Sub_c u v l m w l1 m1 l3 m3 l2 m2
  rw [hc, l5, m5] at h
  refine h.mono fun e w' h => RetL.p h ?_
  by_cases h0 : es e1 e2 a b = 0
  · rw [if_pos h0]
    unfold es at h0
    by_cases h4 : ee e1 e2 = 0
    · have h3 := ee0.1 h4
      have := (big3_bds (s1.2 h3.1) (s2.2 h3.2) s1.1 s2.1).2.2.1
      omega
    · rw [if_neg h4] at h0; exact absurd h0 h4
  · rw [if_neg h0]; exact big3_pos
theorem Cmp_p {u v : Value} {e1 e2 a b : Int} {w : World} (h1 : PV w u e1 a) (h2 : PV w v e2 b) : Calls Tryz.prog 91 #[u, v] w (RetQ w (.tuple #[.int .i64 (if ee e1 e2 = 0 then cmpv a b else 0), .int .i64 (ee e1 e2)])) := by
  obtain ⟨l, l1, l2, l3, l4, l5⟩ := h1
  obtain ⟨m, m1, m2, m3, m4, m5⟩ := h2
  have hc : chk2 l m = ee e1 e2 := by unfold chk2 ee; rw [l4, m4]
  have h := Cmp_c u v l m w l1 m1 l3 m3 l2 m2
  rwa [hc, l5, m5] at h
/-- limbs laid down in new memory -/
theorem PV.lit (w : World) (l : List Int) (hl : Lim l) (hn : l.length ≤ 9223372036854775807) : PV (w.alloc (.cells (l.map (Value.int .u32)).toArray 94)) (.slice (some ⟨w.heap.size, 0, none⟩) l.length l.length) (chk l) (lv l) :=
  ⟨l, Row.sl (L := l) (Blk.new w 94 _) _ (Nat.le_refl _), hl, hn, rfl, rfl⟩
end NC
end Go.Proofs.YtelblhgagpkjmaaGreatDoor

/-
  Numbers that are a whole number times a power of two: their form, the errors, sums and products; pure.
-/
namespace Go.Proofs.YtelblhgagpkjmaaGreatDoor
set_option linter.unusedVariables false
set_option linter.unusedSimpArgs false
open Go.RowKit
set_option linter.unusedVariables false
namespace DC
open L NC
/-- a Dyad's number: its error (of Check), the mantissa with its sign, the exponent -/
structure Dy where
  er : Int
  m : Int
  x : Int
/-- what a call tells: its error, its Dyad -/
structure Re where
  e : Int
  d : Dy
def dz : Dy := ⟨0, 0, 0⟩
/-- the bounds -/
def inb (m x : Int) : Prop := m < 4294967296 ^ 400 ∧ -(4294967296 ^ 400) < m ∧ -10000 ≤ x ∧ x ≤ 10000
instance (m x : Int) : Decidable (inb m x) := by unfold inb; infer_instance
/-- how often a number is twice another one -/
def tw : Nat → Nat → Nat
  | 0, _ => 0
  | f + 1, n => if n % 2 = 1 then 0 else tw f (n / 2) + 1
def tz (m : Int) : Nat := tw m.natAbs m.natAbs
def fin (m x : Int) : Re := if m = 0 then ⟨0, dz⟩ else if inb (m / 2 ^ tz m) (x + tz m) then ⟨0, 0, m / 2 ^ tz m, x + tz m⟩ else ⟨2, dz⟩
/-- the form -/
def can (m x : Int) : Prop := (m = 0 ∧ x = 0) ∨ m % 2 = 1
def Good (d : Dy) : Prop := d.er = 0 → can d.m d.x ∧ inb d.m d.x
theorem two_pos' (n : Nat) : (0 : Int) < 2 ^ n := Int.pow_pos (by decide)
theorem tw_spec : ∀ (f n : Nat), 0 < n → n ≤ f → (n / 2 ^ tw f n) % 2 = 1 ∧ n % 2 ^ tw f n = 0 := by
  intro f
  induction f with
  | zero => intro n h1 h2; omega
  | succ f ih =>
    intro n h1 h2
    unfold tw
    by_cases h : n % 2 = 1
    · rw [if_pos h]; simp [h, Nat.mod_one]
    · rw [if_neg h]
      have h3 := ih (n / 2) (by omega) (by omega)
      rw [Nat.pow_succ, Nat.mul_comm, ← Nat.div_div_eq_div_mul, Nat.mod_mul]
      refine ⟨h3.1, ?_⟩
      rw [h3.2]; omega
theorem tz_spec {m : Int} (h : m ≠ 0) : ∃ o : Int, m = o * 2 ^ tz m ∧ o % 2 = 1 := by
  obtain ⟨h1, h2⟩ := tw_spec m.natAbs m.natAbs (by omega) (Nat.le_refl _)
  have h3 : m.natAbs = (m.natAbs / 2 ^ tz m) * 2 ^ tz m := by
    have := Nat.div_add_mod m.natAbs (2 ^ tz m)
    unfold tz at this ⊢
    rw [h2, Nat.mul_comm] at this
    omega
  have h1' : (m.natAbs / 2 ^ tz m) % 2 = 1 := h1
  generalize m.natAbs / 2 ^ tz m = q at h3 h1'
  have h4 : (m.natAbs : Int) = (q : Int) * 2 ^ tz m := by
    have := congrArg (Nat.cast (R := Int)) h3
    rw [Int.natCast_mul, Int.natCast_pow] at this
    exact this
  by_cases hm : 0 ≤ m
  · exact ⟨q, by rw [← h4]; omega, by omega⟩
  · exact ⟨-q, by rw [Int.neg_mul, ← h4]; omega, by omega⟩
theorem odd_unique {o p : Int} {j k : Nat} (h : o * 2 ^ j = p * 2 ^ k) (ho : o % 2 = 1) (hp : p % 2 = 1) : o = p ∧ j = k := by
  have key : ∀ (o p : Int) (j k : Nat), j ≤ k → o * 2 ^ j = p * 2 ^ k → o % 2 = 1 → o = p ∧ j = k := by
    intro o p j k hjk h ho
    obtain ⟨d, rfl⟩ : ∃ d, k = j + d := ⟨k - j, by omega⟩
    rw [Int.pow_add, Int.mul_comm (2 ^ j), ← Int.mul_assoc] at h
    have h1 := Int.eq_of_mul_eq_mul_right (Int.ne_of_gt (two_pos' j)) h
    rcases Nat.eq_zero_or_pos d with rfl | hd
    · simp at h1; exact ⟨h1, rfl⟩
    · exfalso
      obtain ⟨d', rfl⟩ : ∃ d', d = d' + 1 := ⟨d - 1, by omega⟩
      rw [Int.pow_succ, ← Int.mul_assoc] at h1
      omega
  rcases Nat.le_total j k with hjk | hjk
  · exact key o p j k hjk h ho
  · have := key p o k j hjk h.symm hp
    exact ⟨this.1.symm, this.2.symm⟩
theorem odd_ne {o : Int} (h : o % 2 = 1) : o ≠ 0 := by omega
theorem tz_of {o : Int} {k : Nat} (ho : o % 2 = 1) : tz (o * 2 ^ k) = k ∧ o * 2 ^ k / 2 ^ k = o ∧ o * 2 ^ k ≠ 0 := by
  have hne : o * 2 ^ k ≠ 0 := Int.mul_ne_zero (odd_ne ho) (Int.ne_of_gt (two_pos' k))
  obtain ⟨p, h1, h2⟩ := tz_spec hne
  have := odd_unique h1 ho h2
  exact ⟨this.2.symm, Int.mul_ediv_cancel _ (Int.ne_of_gt (two_pos' k)), hne⟩
theorem fin_zero (x : Int) : fin 0 x = ⟨0, dz⟩ := by unfold fin; rw [if_pos rfl]
theorem fin_of {m o x : Int} {k : Nat} (h : m = o * 2 ^ k) (ho : o % 2 = 1) : fin m x = if inb o (x + k) then ⟨0, 0, o, x + k⟩ else ⟨2, dz⟩ := by
  subst h
  have := tz_of (k := k) ho
  unfold fin
  rw [if_neg this.2.2, this.1, this.2.1]
theorem fin_shift (m x : Int) (k : Nat) : fin (m * 2 ^ k) x = fin m (x + k) := by
  by_cases h : m = 0
  · subst h; rw [Int.zero_mul, fin_zero, fin_zero]
  · obtain ⟨o, h1, h2⟩ := tz_spec h
    rw [fin_of h1 h2]
    have h3 : m * 2 ^ k = o * 2 ^ (tz m + k) := by rw [Int.pow_add, ← Int.mul_assoc, ← h1]
    rw [fin_of h3 h2]
    have e : x + ((tz m + k : Nat) : Int) = x + k + (tz m : Int) := by omega
    rw [e]
theorem fin_good (m x : Int) : Good (fin m x).d ∧ (fin m x).d.er = 0 ∧ ((fin m x).e ≠ 0 → (fin m x).d = dz) := by
  by_cases h : m = 0
  · subst h; rw [fin_zero]; exact ⟨fun _ => ⟨.inl ⟨rfl, rfl⟩, by decide +kernel⟩, rfl, fun h => rfl⟩
  · obtain ⟨o, h1, h2⟩ := tz_spec h
    rw [fin_of h1 h2]
    by_cases hi : inb o (x + tz m)
    · rw [if_pos hi]; exact ⟨fun _ => ⟨.inr h2, hi⟩, rfl, fun h => absurd rfl h⟩
    · rw [if_neg hi]; exact ⟨fun _ => ⟨.inl ⟨rfl, rfl⟩, by decide +kernel⟩, rfl, fun h => rfl⟩
theorem fin_self {d : Dy} (h0 : d.er = 0) (h : Good d) : fin d.m d.x = ⟨0, d⟩ := by
  obtain ⟨er, m, x⟩ := d
  obtain ⟨h1, h2⟩ := h h0
  simp only at h0 h1 h2 ⊢
  subst h0
  rcases h1 with ⟨rfl, rfl⟩ | h1
  · exact fin_zero 0
  · rw [fin_of (m := m) (k := 0) (by simp) h1, if_pos (by simpa using h2)]; simp
/-- the value, in very small units -/
def sc (m x : Int) : Int := m * 2 ^ (x + 60000).toNat
theorem sc_shift (m x : Int) (k : Nat) (hx : -60000 ≤ x) : sc (m * 2 ^ k) x = sc m (x + k) := by
  unfold sc
  rw [Int.mul_assoc, ← Int.pow_add]
  congr 2; omega
theorem fin_sc {m x : Int} (hx : -60000 ≤ x) (h : (fin m x).e = 0) : sc (fin m x).d.m (fin m x).d.x = sc m x := by
  by_cases h0 : m = 0
  · subst h0; rw [fin_zero]; show 0 * _ = 0 * _; rw [Int.zero_mul, Int.zero_mul]
  · obtain ⟨o, h1, h2⟩ := tz_spec h0
    rw [fin_of h1 h2] at h ⊢
    by_cases hi : inb o (x + tz m)
    · rw [if_pos hi]
      have := sc_shift o x (tz m) hx
      rw [← h1] at this
      exact this.symm
    · rw [if_neg hi] at h; cases h
theorem sc_zero {m x : Int} : sc m x = 0 ↔ m = 0 := by
  unfold sc
  constructor
  · intro h; rcases Int.mul_eq_zero.1 h with h | h
    · exact h
    · exact absurd h (Int.ne_of_gt (two_pos' _))
  · rintro rfl; simp
theorem sc_inj {m x m' x' : Int} (h : sc m x = sc m' x') (c : can m x) (c' : can m' x') (hx : -60000 ≤ x) (hx' : -60000 ≤ x') : m = m' ∧ x = x' := by
  rcases c with ⟨rfl, rfl⟩ | c
  · rw [sc_zero.2 rfl] at h
    rcases c' with ⟨rfl, rfl⟩ | c'
    · exact ⟨rfl, rfl⟩
    · exact absurd (sc_zero.1 h.symm) (odd_ne c')
  · rcases c' with ⟨rfl, rfl⟩ | c'
    · rw [sc_zero.2 rfl] at h
      exact absurd (sc_zero.1 h) (odd_ne c)
    · have := odd_unique h c c'
      exact ⟨this.1, by omega⟩
theorem Dy.ext' {c d : Dy} (h1 : c.er = d.er) (h2 : c.m = d.m) (h3 : c.x = d.x) : c = d := by
  cases c; cases d; simp only at h1 h2 h3; subst h1; subst h2; subst h3; rfl
/-- both in units of the lesser exponent -/
def lv2 (a b : Dy) : Int := a.m * 2 ^ (a.x - min a.x b.x).toNat
theorem sc_lv2 (a b : Dy) (h : -60000 ≤ min a.x b.x) : sc (lv2 a b) (min a.x b.x) = sc a.m a.x := by
  unfold lv2
  rw [sc_shift _ _ _ h]
  congr 1; omega
theorem sc_add (m n x : Int) : sc (m + n) x = sc m x + sc n x := by unfold sc; rw [Int.add_mul]
theorem sc_neg (m x : Int) : sc (-m) x = -sc m x := by unfold sc; rw [Int.neg_mul]
theorem sc_lt {m n x : Int} : sc m x < sc n x ↔ m < n := by
  unfold sc
  have := two_pos' (x + 60000).toNat
  constructor
  · intro h; exact Int.lt_of_mul_lt_mul_right h (Int.le_of_lt this)
  · intro h; exact Int.mul_lt_mul_of_pos_right h this
/-- sums, products, shifts -/
def neg (d : Dy) : Dy := ⟨d.er, -d.m, d.x⟩
def sum (a b : Dy) : Re := fin (lv2 a b + lv2 b a) (min a.x b.x)
def Add (a b : Dy) : Re := if ee a.er b.er ≠ 0 then ⟨ee a.er b.er, dz⟩ else sum a b
def Sub (a b : Dy) : Re := if ee a.er b.er ≠ 0 then ⟨ee a.er b.er, dz⟩ else sum a (neg b)
def Mul (a b : Dy) : Re := if ee a.er b.er ≠ 0 then ⟨ee a.er b.er, dz⟩ else fin (a.m * b.m) (a.x + b.x)
end DC
end Go.Proofs.YtelblhgagpkjmaaGreatDoor

