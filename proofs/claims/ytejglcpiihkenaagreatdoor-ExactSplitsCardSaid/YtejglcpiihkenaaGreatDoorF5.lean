/-
  Texts glued together for a claim: N9 NDivQ NLen N10 NRootP N11 N12 N13 N14 Str NTextP N15 N16 Ok N17 N18 DPure.
-/
import Derived.Test.YtejglcpiihkenaaGreatDoorF4
import Derived.Test.YtejglcpiihkenaaGreatDoorF1
import Derived.Lib.BitFns
import Derived.Lib.Small
import Derived.Lib.Strings
import Derived.Lib.Slices
import Derived.Lib.Walk
import Derived.OneCell
import Derived.Laws.Concat
import Derived.Laws.Strings2
import Derived.Laws.Strings
import Derived.Laws.IdiomStrings
import Derived.Test.YtejglcpiihkenaaGreatDoorProg
import Derived.WalkKit
import Derived.WalkLawsBesides
import Derived.LoopTactic
import Derived.Lib.Hide
import Derived.Outline
/-
  Package nat: subTimes, quotientLimb.
-/
namespace Go.Proofs.YtejglcpiihkenaaGreatDoor
set_option linter.unusedVariables false
set_option linter.unusedSimpArgs false
open Go.RowKit
set_option linter.unusedVariables false
namespace NC
open L
open Z (Nz Tz cmpv)
theorem times_last {X Y M : List Int} {q c z : Int} {m : Nat} {b : Bool} (h : TimI (-1) X Y q m M c) (hm : m = Y.length) (hX : m < X.length) (hz : z = M.getD m 0 - c + (if b then 4294967296 else 0)) :
    lv (M.set m z) = lv X - q * lv Y + (if b then 4294967296 ^ (m + 1) else 0) := by
  have e := h.done (by omega)
  rw [lv_set _ _ _ (by rw [h.len]; exact hX), hz, Int.pow_succ]
  cases b
  · simp; grind
  · simp; grind
/-- written in place; it tells a bool -/
def RetEdB (w : World) (g : Nat) (cs : Array Value) (o n : Nat) (p : List Int → Bool → Prop) (e : Ending) (w' : World) : Prop :=
  ∃ M b, e = .returned (.bool b) ∧ Ed w w' g cs o n M ∧ Lim M ∧ Hid (p M b)
end NC
end Go.Proofs.YtejglcpiihkenaaGreatDoor

/-
  Plain mathematics: long division: what is shifted first.
-/
namespace Go.Proofs.YtejglcpiihkenaaGreatDoor.L
set_option linter.unusedVariables false
set_option linter.unusedSimpArgs false
open Z (Nz Tz cmpv)
theorem len_le {L : List Int} {n : Nat} (hL : Lim L) (hn : Nz L) (h1 : lv L < 4294967296 ^ n) : L.length ≤ n := by
  by_cases hne : L = []
  · subst hne; simp
  · have a2 := lv_ge hL hn hne
    rcases Nat.lt_or_ge n L.length with h | h
    · have := pow_mono (show n ≤ L.length - 1 by omega); omega
    · exact h
theorem top_bd {b : List Int} {m : Nat} (hb : Lim b) (hm : b.length = m + 1) : 4294967296 ^ m * b.getD m 0 ≤ lv b ∧ lv b < 4294967296 ^ m * (b.getD m 0 + 1) := by
  have h := lv_split b m (by omega)
  rw [List.drop_of_length_le (by omega)] at h
  have h1 := lv_lt (hb.take m)
  rw [List.length_take, Nat.min_eq_left (by omega)] at h1
  have h2 := lv_nonneg (hb.take m)
  simp only [lv, Int.mul_zero, Int.add_zero] at h
  rw [h]
  refine ⟨by omega, by grind⟩
/-- shifted so that its highest bit is the highest one of its limb, it has as many limbs -/
theorem norm_len {b D : List Int} {m n : Nat} (hb : Lim b) (hm : b.length = m + 1) (h0 : (2 : Int) ^ n ≤ b.getD m 0) (h1 : b.getD m 0 < 2 ^ (n + 1)) (hn : n < 32) (hD : Lim D) (nD : Nz D) (hv : lv D = lv b * 2 ^ (31 - n)) : D.length = m + 1 := by
  obtain ⟨t1, t2⟩ := top_bd hb hm
  have hp := pow_pos m
  have hs := two_pos (31 - n)
  have h2 := two_pos n
  have hb1 : 4294967296 ^ m * 1 ≤ lv b := Int.le_trans (Int.mul_le_mul_of_nonneg_left (by omega) (Int.le_of_lt hp)) t1
  have hb2 : lv b < 4294967296 ^ m * 2 ^ (n + 1) := Int.lt_of_lt_of_le t2 (Int.mul_le_mul_of_nonneg_left (by omega) (Int.le_of_lt hp))
  refine len_eq hD nD ?_ ?_
  · rw [hv]
    have : lv b * 1 ≤ lv b * 2 ^ (31 - n) := Int.mul_le_mul_of_nonneg_left (by omega) (lv_nonneg hb)
    omega
  · rw [hv]
    have e : (2 : Int) ^ (n + 1) * 2 ^ (31 - n) = 4294967296 := by rw [← Int.pow_add, show n + 1 + (31 - n) = 32 by omega]; decide
    have : lv b * 2 ^ (31 - n) < 4294967296 ^ m * 2 ^ (n + 1) * 2 ^ (31 - n) := Int.mul_lt_mul_of_pos_right hb2 hs
    rw [Int.mul_assoc, e] at this
    rw [Int.pow_succ]; exact this
theorem up_len {a A : List Int} {s la : Nat} (ha : Lim a) (hl : a.length = la) (hs : s ≤ 32) (hA : Lim A) (nA : Nz A) (hv : lv A = lv a * 2 ^ s) : A.length ≤ la + 1 := by
  refine len_le hA nA ?_
  have h1 := lv_lt ha
  rw [hl] at h1
  have h2 : (2 : Int) ^ s ≤ 4294967296 := by
    have : (2 : Int) ^ s ≤ 2 ^ 32 := by exact_mod_cast Nat.pow_le_pow_right (by decide : 0 < 2) hs
    exact this
  have h3 := two_pos s
  rw [hv, Int.pow_succ]
  have h4 : lv a * 2 ^ s ≤ lv a * 4294967296 := Int.mul_le_mul_of_nonneg_left h2 (lv_nonneg ha)
  omega
theorem dv_start {a b P : List Int} {s la m nq : Nat} (ha : Lim a) (hla : a.length = la) (hb : Lim b) (nb : Nz b) (hm : b.length = m + 1) (hnq : m + nq = la) (hP : Lim P) (hPl : P.length = la + 1) (hv : lv P = lv a * 2 ^ s) :
    DvI (lv a * 2 ^ s) (lv b * 2 ^ s) nq nq (List.replicate nq 0) P (la + 1) := by
  refine ⟨by simp, Lim.rep _, hPl, hP, fun j _ => Z.getD_rep _ _, by rw [lv_rep, hv]; omega, ?_⟩
  have h1 := lv_lt ha
  rw [hla] at h1
  have h2 := lv_ge hb nb (by intro h; subst h; simp at hm)
  rw [hm, Nat.add_sub_cancel] at h2
  have hs := two_pos s
  rw [hv]
  have e : (4294967296 : Int) ^ la = 4294967296 ^ m * 4294967296 ^ nq := by rw [← hnq, Int.pow_add]
  have h3 : 4294967296 ^ m * 4294967296 ^ nq ≤ lv b * 4294967296 ^ nq := Int.mul_le_mul_of_nonneg_right h2 (Int.le_of_lt (pow_pos nq))
  have h4 : lv a * 2 ^ s < lv b * 4294967296 ^ nq * 2 ^ s := Int.mul_lt_mul_of_pos_right (by omega) hs
  rw [show lv b * 2 ^ s * 4294967296 ^ nq = lv b * 4294967296 ^ nq * 2 ^ s by grind]
  exact h4
end Go.Proofs.YtejglcpiihkenaaGreatDoor.L

/-
  math/bits: Len32, LeadingZeros32. (The proof of Len32 is after the shelf's.)
-/
namespace Go.Proofs.YtejglcpiihkenaaGreatDoor
set_option linter.unusedVariables false
set_option linter.unusedSimpArgs false
open Go.RowKit
set_option linter.unusedVariables false
namespace NC
open L
theorem tab_size : Lib.len8tab.size = 256 := by decide +kernel
theorem tab_eq : ∀ n : Fin 256, (Lib.len8tab[n.val]'(by rw [tab_size]; exact n.isLt)).toNat = Lib.bitLen n.val := by decide +kernel
theorem tab_at (n : Nat) (h : n < Lib.len8tab.size) : (Lib.len8tab[n]'h).toNat = Lib.bitLen n := tab_eq ⟨n, by rw [← tab_size]; exact h⟩
theorem wrap64_id {n : Int} (h : -9223372036854775808 ≤ n ∧ n ≤ 9223372036854775807) : wrap64 n = n := by unfold wrap64; omega
set_option maxHeartbeats 4000000 in
set_option maxRecDepth 100000 in
theorem Len32_c (x : Int) (w : World) (h0 : 0 ≤ x) (h1 : x ≤ 4294967295) : Calls Tryz.prog 93 #[.int .u32 x] w (fun e w' => e = .returned (.int .i64 (Lib.bitLen x.toNat)) ∧ w = w') := by
  have hsz := tab_size
  go_enter Tryz.func93, Tryz.ntmps93
  go_wp2
  all_goals (go_ret; refine ⟨congrArg Ending.returned (congrArg (Value.int IntKind.i64) ?_), rfl⟩)
  all_goals rw [tab_at]
  all_goals first
    | (have e : (x / 65536 / 256).toNat = x.toNat / 16777216 := by omega
       have l := Lib.bitLen_le (x / 65536 / 256).toNat 8 (by omega) (by omega)
       have s := Lib.bitLen_shift24 x.toNat (by omega) (by omega)
       rw [e] at l ⊢
       rw [wrap64_id (n := ((Lib.bitLen (x.toNat / 16777216) : Nat) : Int)) (by omega), wrap64_id (by omega)]
       omega)
    | (have e : (x / 65536).toNat = x.toNat / 65536 := by omega
       have l := Lib.bitLen_le (x / 65536).toNat 8 (by omega) (by omega)
       have s := Lib.bitLen_shift16 x.toNat (by omega) (by omega)
       rw [e] at l ⊢
       rw [wrap64_id (n := ((Lib.bitLen (x.toNat / 65536) : Nat) : Int)) (by omega), wrap64_id (by omega)]
       omega)
    | (have e : (x / 256).toNat = x.toNat / 256 := by omega
       have l := Lib.bitLen_le (x / 256).toNat 8 (by omega) (by omega)
       have s := Lib.bitLen_shift8 x.toNat (by omega) (by omega)
       rw [e] at l ⊢
       rw [wrap64_id (n := ((Lib.bitLen (x.toNat / 256) : Nat) : Int)) (by omega), wrap64_id (by omega)]
       omega)
    | (have l := Lib.bitLen_le x.toNat 8 (by omega) (by omega)
       rw [wrap64_id (n := ((Lib.bitLen x.toNat : Nat) : Int)) (by omega), wrap64_id (by omega)])
theorem bitLen_bd (x : Int) (h0 : 0 < x) (h1 : x ≤ 4294967295) : ∃ n : Nat, Lib.bitLen x.toNat = n + 1 ∧ n < 32 ∧ (2 : Int) ^ n ≤ x ∧ x < 2 ^ (n + 1) := by
  obtain ⟨a, rfl⟩ := Int.eq_ofNat_of_zero_le (Int.le_of_lt h0)
  have ha : a ≠ 0 := by omega
  have key : ∀ (f b : Nat), b ≠ 0 → b < 2 ^ f → ∃ n : Nat, Lib.bitLenAux f b = n + 1 ∧ 2 ^ n ≤ b ∧ b < 2 ^ (n + 1) := by
    intro f
    induction f with
    | zero => intro b h1 h2; simp at h2; omega
    | succ f ih =>
      intro b h1 h2
      simp only [Lib.bitLenAux, if_neg h1]
      by_cases hb : b / 2 = 0
      · refine ⟨0, ?_, by simp; omega, by simp; omega⟩
        rw [hb]
        cases f <;> simp [Lib.bitLenAux]
      · obtain ⟨n, e1, e2, e3⟩ := ih (b / 2) hb (by rw [Nat.pow_succ] at h2; omega)
        exact ⟨n + 1, by omega, by rw [Nat.pow_succ]; omega, by rw [Nat.pow_succ]; omega⟩
  obtain ⟨n, e1, e2, e3⟩ := key 64 a ha (by omega)
  have l := Lib.bitLen_le a 32 (by omega) (by omega)
  refine ⟨n, e1, ?_, by exact_mod_cast e2, by exact_mod_cast e3⟩
  have : Lib.bitLen a = n + 1 := e1
  omega
end NC
end Go.Proofs.YtejglcpiihkenaaGreatDoor

/-
  Package nat: divide, Div.
-/
namespace Go.Proofs.YtejglcpiihkenaaGreatDoor
set_option linter.unusedVariables false
set_option linter.unusedSimpArgs false
open Go.RowKit
set_option linter.unusedVariables false
namespace NC
open L
open Z (Nz Tz cmpv)
theorem Row.grown {w w' : World} {g g' : Nat} {P : List Int} (h : Row .u32 108 w g P) (hg : w.grownBy w' (some g')) (hne : g ≠ g') : Row .u32 108 w' g P := Blk.grown h hg (by simpa using hne)
theorem Row.below' {w w' : World} {g : Nat} {P : List Int} (h : Row .u32 108 w g P) (hb : Below w.heap.size w w') : Row .u32 108 w' g P := Blk.below h hb (Blk.lt h)
/-- a quotient and a remainder -/
def RetVV (w : World) (q r : Int) (e : Ending) (w' : World) : Prop := ∃ A n c A' n' c', e = .returned (.tuple #[.slice A n c, .slice A' n' c']) ∧ NV w' (.slice A n c) q ∧ NV w' (.slice A' n' c') r ∧ Below w.heap.size w w'
/-- what Div tells of an error -/
def errDiv (l m : List Int) : Int := if chk2 l m ≠ 0 then chk2 l m else if m = [] then 1 else 0
def RetD (w : World) (er q r : Int) (e : Ending) (w' : World) : Prop := ∃ A n c A' n' c', e = .returned (.tuple #[.slice A n c, .slice A' n' c', .int .i64 er]) ∧ NV w' (.slice A n c) q ∧ NV w' (.slice A' n' c') r ∧ Below w.heap.size w w'
theorem RetD.err {w w' : World} {er : Int} (hb : Below w.heap.size w w') : RetD w er 0 0 (.returned (.tuple #[.slice none 0 0, .slice none 0 0, .int .i64 er])) w' := ⟨none, 0, 0, none, 0, 0, rfl, NV.nil _ _ _, NV.nil _ _ _, hb⟩
theorem Head.sl {w : World} {B g c : Nat} {l : List Int} (h : Head w B g c l) : Sl .u32 w (.slice (some ⟨g, 0, none⟩) l.length c) l := by
  obtain ⟨_, hc, cs, hb, hw⟩ := h
  refine ⟨_, c, rfl, hc, .inr ⟨⟨g, 0, none⟩, rfl, hb.lt, fun j hj => ?_⟩⟩
  have e : (⟨g, 0, none⟩ : Addr).add j = ⟨g, 0 + j, none⟩ := by unfold Addr.add; split <;> simp_all
  rw [e, hb.at_ _ (hw j hj), List.getD_eq_getElem?_getD, List.getElem?_eq_getElem hj]; rfl
theorem undrewN {w w' : World} {k : Nat} (h : Below (w.drewN k).heap.size (w.drewN k) w') : Below w.heap.size w w' := ⟨h.os, h.tape, h.output, h.size, h.block⟩
end NC
end Go.Proofs.YtejglcpiihkenaaGreatDoor

/-
  Plain mathematics: limbs with bits put behind them; the root, two bits at a time.
-/
namespace Go.Proofs.YtejglcpiihkenaaGreatDoor.L
set_option linter.unusedVariables false
set_option linter.unusedSimpArgs false
open Z (Nz Tz cmpv)
theorem nz_of_ge {M : List Int} {n : Nat} (hM : Lim M) (hl : M.length = n + 1) (h : 4294967296 ^ n ≤ lv M) : Nz M := by
  intro hne h0
  have h1 := lv_split M n (by omega)
  rw [List.drop_of_length_le (by omega)] at h1
  have h2 := lv_lt (hM.take n)
  rw [List.length_take, Nat.min_eq_left (by omega)] at h2
  have h3 : M.getD n 0 = 0 := by
    rw [List.getLast_eq_getElem] at h0
    rw [List.getD_eq_getElem?_getD, List.getElem?_eq_getElem (by omega)]
    simpa [hl] using h0
  rw [h3] at h1
  simp [lv] at h1
  omega
/-- bits being put behind: so many limbs are moved up by r bits; c is carried -/
structure PuI (X : List Int) (r : Nat) (low : Int) (i : Nat) (M : List Int) (c : Int) : Prop where
  len : M.length = X.length
  lim : Lim M
  c0 : 0 ≤ c
  c1 : c < 2 ^ r
  rest : ∀ j, i ≤ j → M.getD j 0 = X.getD j 0
  sum : lv (M.take i) + 4294967296 ^ i * c = 2 ^ r * lv (X.take i) + low
theorem PuI.start {X : List Int} {r : Nat} {low : Int} (h : Lim X) (h0 : 0 ≤ low) (h1 : low < 2 ^ r) : PuI X r low 0 X low := ⟨rfl, h, h0, h1, fun _ _ => rfl, by simp [lv]⟩
theorem PuI.step {X M : List Int} {r i : Nat} {low c q : Int} (h : PuI X r low i M c) (hi : i < X.length) (hq : X.getD i 0 = q) (q0 : 0 ≤ q) (q1 : q < 4294967296) : PuI X r low (i + 1) (M.set i ((q * 2 ^ r + c) % 4294967296)) ((q * 2 ^ r + c) / 4294967296) := by
  have hp := two_pos r
  have c0 := h.c0
  have c1 := h.c1
  have q2 : 0 ≤ q * 2 ^ r := Int.mul_nonneg q0 (Int.le_of_lt hp)
  have e := Int.emod_add_mul_ediv (q * 2 ^ r + c) 4294967296
  refine ⟨by simp [h.len], h.lim.set _ (Int.emod_nonneg _ (by decide)) (Int.emod_lt_of_pos _ (by decide)), Int.ediv_nonneg (by omega) (by decide), ?_, fun j hj => ?_, ?_⟩
  · rw [Int.ediv_lt_iff_lt_mul (by decide)]
    have : (q + 1) * 2 ^ r ≤ 4294967296 * 2 ^ r := Int.mul_le_mul_of_nonneg_right (by omega) (Int.le_of_lt hp)
    grind
  · rw [getD_set (by rw [h.len]; exact hi), if_neg (by omega)]; exact h.rest j (by omega)
  · rw [lv_take_succ, lv_take_succ, getD_set (by rw [h.len]; exact hi), if_pos rfl, List.take_set_of_le (Nat.le_refl _), hq, Int.pow_succ]
    have := h.sum
    have e2 : (4294967296 : Int) ^ i * ((q * 2 ^ r + c) % 4294967296 + 4294967296 * ((q * 2 ^ r + c) / 4294967296)) = 4294967296 ^ i * (q * 2 ^ r + c) := by rw [e]
    grind
theorem PuI.done0 {X M : List Int} {r : Nat} {low : Int} (h : PuI X r low X.length M 0) (hX : Lim X) (nX : Nz X) (h0 : 0 ≤ low) : lv M = lv X * 2 ^ r + low ∧ Nz M := by
  have := h.sum
  rw [List.take_length, lv_take_all (by rw [h.len]; exact Nat.le_refl _)] at this
  have e : lv M = lv X * 2 ^ r + low := by grind
  refine ⟨e, ?_⟩
  by_cases hne : X = []
  · intro hM
    have := h.len
    rw [hne] at this
    exact absurd (List.eq_nil_of_length_eq_zero this) hM
  · have h1 := lv_ge hX nX hne
    have hp := two_pos r
    have hl := List.length_pos_iff.2 hne
    refine nz_of_ge (n := X.length - 1) h.lim (by rw [h.len]; omega) ?_
    have h2 : lv X * 1 ≤ lv X * 2 ^ r := Int.mul_le_mul_of_nonneg_left (by omega) (lv_nonneg hX)
    omega
theorem PuI.done1 {X M : List Int} {r : Nat} {low c : Int} (h : PuI X r low X.length M c) (hc : 0 < c) : lv (M ++ [c]) = lv X * 2 ^ r + low ∧ Nz (M ++ [c]) := by
  have := h.sum
  rw [List.take_length, lv_take_all (by rw [h.len]; exact Nat.le_refl _)] at this
  refine ⟨by rw [lv_append, h.len]; simp [lv]; grind, fun hne => ?_⟩
  simp; omega
/-- the root under way: k pairs of bits are left; R is the root of the others, re what is left of them -/
structure SqI (A : Int) (K k : Nat) (R tw re : Int) : Prop where
  r0 : 0 ≤ R
  eT : tw = 2 * R
  eR : re = A / 4 ^ k - R * R
  le : re ≤ 2 * R
  re0 : 0 ≤ re
  top : R = 0 → k = K
theorem SqI.start {A : Int} {K : Nat} (h0 : 0 ≤ A) (h : A < 4 ^ K) : SqI A K K 0 0 0 := ⟨by omega, by omega, by rw [Int.ediv_eq_zero_of_lt h0 h]; omega, by omega, by omega, fun _ => rfl⟩
theorem four_step (A : Int) (k : Nat) : A / 4 ^ k = 4 * (A / 4 ^ (k + 1)) + A / 4 ^ k % 4 := by
  have e := Int.emod_add_mul_ediv (A / 4 ^ k) 4
  have hp : (0 : Int) ≤ 4 ^ k := Int.le_of_lt (Int.pow_pos (by decide))
  rw [Int.pow_succ, ← Int.ediv_ediv_of_nonneg hp]
  omega
theorem SqI.less {A R tw re p : Int} {K k : Nat} (h : SqI A K (k + 1) R tw re) (hK : 4 ^ (K - 1) ≤ A) (hp : p = A / 4 ^ k % 4) (hlt : re * 4 + p < tw * 2 + 1) : SqI A K k (2 * R) (tw * 2) (re * 4 + p) ∧ 0 < R := by
  have e := four_step A k
  have h1 := h.eT
  have h2 := h.eR
  have h3 := h.r0
  have h4 := h.re0
  have p0 : 0 ≤ A / 4 ^ k % 4 := Int.emod_nonneg _ (by decide)
  have hR : 0 < R := by
    rcases Int.lt_or_eq_of_le h3 with h5 | h5
    · exact h5
    · exfalso
      have hk := h.top h5.symm
      have a1 : (1 : Int) ≤ A / 4 ^ k := by
        rw [Int.le_ediv_iff_mul_le (Int.pow_pos (by decide))]
        have : K - 1 = k := by omega
        rw [this] at hK
        omega
      rw [← h5] at h1 h2
      simp at h2
      omega
  refine ⟨⟨by omega, by omega, ?_, by omega, by omega, fun h5 => by omega⟩, hR⟩
  rw [e, h2, hp]; grind
theorem SqI.more {A R tw re p : Int} {K k : Nat} (h : SqI A K (k + 1) R tw re) (hp : p = A / 4 ^ k % 4) (hge : tw * 2 + 1 ≤ re * 4 + p) : SqI A K k (2 * R + 1) (tw * 2 + 1 + 1) (re * 4 + p - (tw * 2 + 1)) := by
  have e := four_step A k
  have h1 := h.eT
  have h2 := h.eR
  have h3 := h.r0
  have h4 := h.le
  have p1 : A / 4 ^ k % 4 < 4 := Int.emod_lt_of_pos _ (by decide)
  refine ⟨by omega, by omega, ?_, by omega, by omega, fun h5 => by omega⟩
  rw [e, h2, hp, h1]; grind
theorem SqI.done {A R tw re : Int} {K : Nat} (h : SqI A K 0 R tw re) : R * R + re = A ∧ 0 ≤ re ∧ re ≤ 2 * R ∧ 0 ≤ R := by
  have := h.eR
  simp at this
  exact ⟨by omega, h.re0, h.le, h.r0⟩
/-- a pair of bits of limbs -/
theorem pair_eq {a : List Int} (ha : Lim a) (i : Nat) (hi : i / 16 < a.length) : a.getD (i / 16) 0 / 2 ^ (i % 16 * 2) % 4 = lv a / 4 ^ i % 4 := by
  have e1 : (4 : Int) ^ i = 4294967296 ^ (i / 16) * 2 ^ (i % 16 * 2) := by
    rw [show (4 : Int) = 2 ^ 2 by decide, show (4294967296 : Int) = 2 ^ 32 by decide, ← Int.pow_mul, ← Int.pow_mul, ← Int.pow_add]
    congr 1
    omega
  rw [e1, ← Int.ediv_ediv_of_nonneg (Int.le_of_lt (pow_pos _)), ← lv_div a ha _ (by omega), lv_drop _ hi]
  generalize a.getD (i / 16) 0 = x
  generalize lv (a.drop (i / 16 + 1)) = D
  have ht : i % 16 * 2 + 2 ≤ 32 := by omega
  obtain ⟨p', _, e⟩ := two_split ht
  have hp := two_pos (i % 16 * 2)
  rw [Int.pow_add] at e
  generalize (2 : Int) ^ (i % 16 * 2) = p at *
  have : x + 4294967296 * D = x + p * (4 * p' * D) := by rw [← e]; grind
  rw [this, Int.add_mul_ediv_left _ _ (by omega), Int.mul_assoc 4, Int.add_mul_emod_self_left]
theorem and3 (x : Int) (h0 : 0 ≤ x) (h1 : x < 4294967296) : bits .and .u32 x 3 = x % 4 := by
  obtain ⟨a, rfl⟩ := Int.eq_ofNat_of_zero_le h0
  rw [show (3 : Int) = ((3 : Nat) : Int) by rfl, and_u32 a 3 (by omega) (by decide), show (3 : Nat) = 2 ^ 2 - 1 by decide, Nat.and_two_pow_sub_one_eq_mod]
  rfl
/-- the lowest limb one more, one less -/
theorem lv_set0 {L : List Int} (h : L ≠ []) (z : Int) : lv (L.set 0 z) = lv L + (z - L.getD 0 0) := by
  rw [lv_set L 0 z (List.length_pos_iff.2 h)]; simp
theorem nz_set0 {L : List Int} {z : Int} (hn : Nz L) (hz : z ≠ 0 ∨ 1 < L.length) : Nz (L.set 0 z) := by
  intro hne h0
  cases L with
  | nil => simp at hne
  | cons d r =>
    cases r with
    | nil => simp at h0 hz; exact hz h0
    | cons d2 r =>
      simp only [List.set_cons_zero, List.getLast_cons_cons] at h0
      exact hn (by simp) (by simpa [List.getLast_cons_cons] using h0)
theorem low4 {L : List Int} (h : L ≠ []) {x : Int} (e : lv L = 4 * x + 1) : L.getD 0 0 % 4 = 1 := by
  have := lv_drop (L := L) 0 (List.length_pos_iff.2 h)
  simp only [List.drop_zero] at this
  omega
end Go.Proofs.YtejglcpiihkenaaGreatDoor.L

/-
  Package nat: push: a slice of the call's own, written in place and appended to.
-/
namespace Go.Proofs.YtejglcpiihkenaaGreatDoor
set_option linter.unusedVariables false
set_option linter.unusedSimpArgs false
open Go.RowKit
set_option linter.unusedVariables false
namespace NC
open L
open Z (Nz Tz cmpv)
abbrev OwnU (w : World) (base : Nat) (v : Value) (X : List Int) : Prop := Own .u32 108 w base v X
section
variable {w : World} {base g n c : Nat} {X : List Int}
theorem OwnU.cell (h : OwnU w base (.slice (some ⟨g, 0, none⟩) n c) X) (j : Nat) (hj : j < X.length) : w.cell? ⟨g, j, none⟩ = some (.int .u32 (X.getD j 0)) := by
  have hn : n = X.length := (Own.sl h).len_.1
  subst hn
  have := World.ownsRow.cellAt h j (by omega)
  rw [this, List.getElem?_map, List.getD_eq_getElem?_getD, List.getElem?_eq_getElem hj]; rfl
theorem OwnU.frozen (h : OwnU w base (.slice (some ⟨g, 0, none⟩) n c) X) (j : Nat) : w.frozen? ⟨g, j, none⟩ = false := by
  have hn : n = X.length := (Own.sl h).len_.1
  subst hn
  exact World.ownsRow.frozenAt h j
theorem OwnU.set_ (h : OwnU w base (.slice (some ⟨g, 0, none⟩) n c) X) (j : Nat) (z : Int) : OwnU (w.setCell ⟨g, j, none⟩ (.int .u32 z)) base (.slice (some ⟨g, 0, none⟩) n c) (X.set j z) := by
  have hn : n = X.length := (Own.sl h).len_.1
  subst hn
  have := (World.ownsRow.stored h j (.int .u32 z)).1
  unfold OwnU Own
  rw [List.map_set, List.length_set]
  exact this
theorem OwnU.form {v : Value} (h : OwnU w base v X) : (v = .slice none 0 0 ∧ X = []) ∨ ∃ g c, v = .slice (some ⟨g, 0, none⟩) X.length c ∧ base ≤ g ∧ g < w.heap.size ∧ X.length ≤ c := by
  rcases h.2 with ⟨rfl, h0⟩ | ⟨g, cap, cur, rfl, hg, hgg, hc, _⟩
  · exact .inl ⟨rfl, List.eq_nil_of_length_eq_zero h0⟩
  · exact .inr ⟨g, cap, rfl, hg, (Array.getElem?_eq_some_iff.1 hgg).1, hc⟩
end
/-- one limb appended, anywhere the walk stands at the call -/
def RetPu (w : World) (base : Nat) (v : Value) (z : Int) (e : Ending) (w' : World) : Prop :=
  ∃ A n c X, e = .returned (.slice A n c) ∧ Hid (OwnU w' base (.slice A n c) X ∧ Lim X ∧ Nz X ∧ lv X = z) ∧ w.grownBy w' v.ownBlock ∧ ((Value.slice A n c).ownBlock = v.ownBlock ∨ ∃ g, (Value.slice A n c).ownBlock = some g ∧ w.heap.size ≤ g)
end NC
end Go.Proofs.YtejglcpiihkenaaGreatDoor

/-
  Package nat: squareRoot.
-/
namespace Go.Proofs.YtejglcpiihkenaaGreatDoor
set_option linter.unusedVariables false
set_option linter.unusedSimpArgs false
open Go.RowKit
set_option linter.unusedVariables false
namespace NC
open L
open Z (Nz Tz cmpv)
def Sep (v u : Value) : Prop := ∀ g, v.ownBlock = some g → u.ownBlock = some g → False
theorem Sep.symm {v u : Value} (h : Sep v u) : Sep u v := fun g h1 h2 => h g h2 h1
section
variable {w w' : World} {base : Nat} {v u u' : Value} {X : List Int}
theorem keepO (h : OwnU w base v X) (hg : w.grownBy w' u.ownBlock) (hs : Sep v u) : OwnU w' base v X := by
  refine World.ownsRow.kept h hg ?_
  cases hv : v.ownBlock with
  | none => exact .inl rfl
  | some g => exact .inr fun e => hs g hv e.symm
theorem sep_after (hs : Sep v u) (h : OwnU w base v X) (h' : u'.ownBlock = u.ownBlock ∨ ∃ g, u'.ownBlock = some g ∧ w.heap.size ≤ g) : Sep v u' := by
  intro g h1 h2
  rcases h' with h' | ⟨g', h3, h4⟩
  · exact hs g h1 (h'.symm.trans h2)
  · have := (Own.lt h g h1).2
    rw [h3] at h2
    injection h2 with h2
    omega
theorem keepS (h : OwnU w base v X) {g j : Nat} {z : Value} (hs : v.ownBlock ≠ some g) : OwnU (w.setCell ⟨g, j, none⟩ z) base v X := ownsRow_setCell_other h hs z
theorem OwnU.take {A : Option Addr} {n c m : Nat} (h : OwnU w base (.slice A n c) X) (hm : m ≤ n) (hA : A ≠ none) : OwnU w base (.slice A m c) (X.take m) := by
  have hn : n = X.length := (Own.sl h).len_.1
  have hl : (X.take m).length = m := by rw [List.length_take, ← hn]; exact Nat.min_eq_left hm
  unfold OwnU Own
  rw [hl]
  refine ⟨by rw [List.length_map, hl]; omega, ?_⟩
  rcases h.2 with ⟨e, _⟩ | ⟨g, cap, cur, e, hg, hgg, hc, hmx, hsz, htk⟩
  · injection e with e1; exact absurd e1 hA
  · injection e with e1 e2 e3
    subst e1 e3
    refine .inr ⟨g, _, cur, rfl, hg, hgg, by omega, hmx, hsz, ?_⟩
    rw [List.map_take, ← htk, List.take_take, Nat.mul_one, Nat.mul_one, Nat.min_eq_left (by omega)]
end
/-- a slice of the call's own, written in place -/
def RetOw (w : World) (base g n c : Nat) (z : Int) (e : Ending) (w' : World) : Prop :=
  ∃ M, e = .returned (.tuple #[]) ∧ w.grownBy w' (some g) ∧ Hid (OwnU w' base (.slice (some ⟨g, 0, none⟩) n c) M ∧ M.length = n ∧ Lim M ∧ lv M = z)
theorem own_of_ed {w w' : World} {base g n c : Nat} {X M : List Int} {cs : Array Value} (h : OwnU w base (.slice (some ⟨g, 0, none⟩) n c) X) (hcs : Blk w g 108 cs) (hE : Ed w w' g cs 0 n M) : OwnU w' base (.slice (some ⟨g, 0, none⟩) n c) M := by
  obtain ⟨cs', hb, hs, hM, _⟩ := hE.blk
  have hl := hE.len
  unfold OwnU Own
  rw [hl]
  refine ⟨by rw [List.length_map, hl]; omega, ?_⟩
  rcases h.2 with ⟨e, _⟩ | ⟨g2, cap, cur, e, hg, hgg, hc, hmx, hsz, htk⟩
  · cases e
  · injection e with e1 e2 e3
    injection e1 with e1
    injection e1 with e1
    subst e1 e3
    have e4 : cs = cur := by
      have := hgg.symm.trans hcs
      injection this with this
      injection this with this
      exact this.symm
    subst e4
    refine .inr ⟨g, _, cs', rfl, hg, hb, by omega, hmx, by rw [hs]; exact hsz, ?_⟩
    apply List.ext_getElem?
    intro j
    rw [List.getElem?_take, List.getElem?_map, Nat.mul_one]
    by_cases hj : j < n
    · have := hM j (by omega)
      rw [Nat.zero_add] at this
      rw [if_pos hj, Array.getElem?_toList, this, List.getD_eq_getElem?_getD, List.getElem?_eq_getElem (by omega)]; rfl
    · rw [if_neg hj, List.getElem?_eq_none (by omega)]; rfl
theorem subFrom_own (base g n c : Nat) (X m : List Int) (vb : Value) (w : World) (hO : OwnU w base (.slice (some ⟨g, 0, none⟩) n c) X) (hY : SlA .u32 w vb m g) (LX : Lim X) (Lm : Lim m) (nm : Nz m) (hle : lv m ≤ lv X) (hN : X.length ≤ 1000000000) :
    Calls Tryz.prog 131 #[.slice (some ⟨g, 0, none⟩) n c, vb] w (RetOw w base g n c (lv X - lv m)) := by
  have hn : n = X.length := (Own.sl hO).len_.1
  subst hn
  have hlen : m.length ≤ X.length := by
    rcases Nat.lt_or_ge X.length m.length with h | h
    · have := lv_len LX Lm nm h; omega
    · exact h
  have hc := (Own.sl hO).len_.2
  obtain ⟨cs, hb, hw⟩ : ∃ cs, Blk w g 108 cs ∧ Wn cs 0 X := by
    by_cases hne : X = []
    · rcases hO.2 with ⟨e, _⟩ | ⟨g2, cap, cur, e, hg, hgg, _⟩
      · cases e
      · injection e with e1 _ _
        injection e1 with e1
        injection e1 with e1
        subst e1
        exact ⟨cur, hgg, by subst hne; intro j hj; simp at hj⟩
    · obtain ⟨g2, c2, e, hH⟩ := own_head hO hne
      injection e with e1 _ _
      injection e1 with e1
      injection e1 with e1
      subst e1
      exact hH.2.2
  refine (subFrom_c g 0 X.length c cs X m vb w hb hw rfl hY LX Lm hlen hN hc hle).mono fun e w' h => ?_
  obtain ⟨M, rfl, hE, hL, hv⟩ := h
  exact ⟨M, rfl, hE.grown, own_of_ed hO hb hE, hE.len, hL, hv.out⟩
end NC
end Go.Proofs.YtejglcpiihkenaaGreatDoor

/-
  Package nat: squareRoot, Root; Bits.
-/
namespace Go.Proofs.YtejglcpiihkenaaGreatDoor
set_option linter.unusedVariables false
set_option linter.unusedSimpArgs false
open Go.RowKit
set_option linter.unusedVariables false
namespace NC
open L
open Z (Nz Tz cmpv)
/-- limbs of the call's own in normal form -/
structure ON (w : World) (base : Nat) (v : Value) (X : List Int) (z : Int) : Prop where
  o : OwnU w base v X
  l : Lim X
  n : Nz X
  v : lv X = z
theorem ON.drewN {w : World} {base : Nat} {v : Value} {X : List Int} {z : Int} (h : ON w base v X z) (k : Nat) : ON (w.drewN k) base v X z := ⟨Own.drewN h.o k, h.l, h.n, h.v⟩
theorem ON.nil (w : World) (base : Nat) : ON w base (.slice none 0 0) [] 0 := ⟨Own.nil _ _ _ _, Lim.nil, (by intro h; exact absurd rfl h), rfl⟩
theorem ON.len {w : World} {base : Nat} {v : Value} {X : List Int} {z : Int} (h : ON w base v X z) (hz : z < 4294967296 ^ 500) : X.length ≤ 500 := len_le h.l h.n (by rw [h.v]; exact hz)
theorem ON.some_ {w : World} {base : Nat} {A : Option Addr} {n c : Nat} {X : List Int} {z : Int} (h : ON w base (.slice A n c) X z) (hz : 0 < z) : ∃ g, A = some ⟨g, 0, none⟩ ∧ n = X.length ∧ X ≠ [] ∧ base ≤ g ∧ g < w.heap.size := by
  have hne : X ≠ [] := by intro e; have := h.v; rw [e] at this; simp [lv] at this; omega
  rcases OwnU.form h.o with ⟨_, e⟩ | ⟨g, c', e, hg, hgs, _⟩
  · exact absurd e hne
  · injection e with e1 e2 e3
    exact ⟨g, e1, e2, hne, hg, hgs⟩
theorem lv_one {L : List Int} (h : L.length = 1) : lv L = L.getD 0 0 := by
  obtain ⟨d, rfl⟩ := List.length_eq_one_iff.1 h
  simp [lv]
theorem root_bds {A R : Int} {K k : Nat} {tw re : Int} (h : SqI A K k R tw re) (hA : 0 ≤ A) (hs : A < 4294967296 ^ 400) : tw < 4294967296 ^ 401 ∧ re < 4294967296 ^ 401 ∧ tw * 2 + 1 < 4294967296 ^ 500 ∧ re * 4 + 3 < 4294967296 ^ 500 := by
  have h1 := h.eT
  have h2 := h.eR
  have h3 := h.le
  have h4 := h.re0
  have h0 := h.r0
  have h5 : A / 4 ^ k ≤ A := Int.ediv_le_self _ hA
  have h6 : R ≤ R * R ∨ R = 0 := by
    rcases Int.lt_or_eq_of_le h0 with h | h
    · left
      have : R * 1 ≤ R * R := Int.mul_le_mul_of_nonneg_left (by omega) h0
      omega
    · right; exact h.symm
  have e1 : (4294967296 : Int) ^ 401 = 4294967296 ^ 400 * 4294967296 := Int.pow_succ _ _
  have e2 : (4294967296 : Int) ^ 402 = 4294967296 ^ 401 * 4294967296 := Int.pow_succ _ _
  have e3 : (4294967296 : Int) ^ 402 ≤ 4294967296 ^ 500 := pow_mono (by decide)
  have e4 := pow_pos 400
  generalize (4294967296 : Int) ^ 500 = c1 at *
  generalize (4294967296 : Int) ^ 402 = c2 at *
  generalize (4294967296 : Int) ^ 401 = c3 at *
  generalize (4294967296 : Int) ^ 400 = c4 at *
  have h7 : R * R ≤ A := by omega
  refine ⟨?_, ?_, ?_, ?_⟩ <;> rcases h6 with h6 | h6 <;> (try subst h6) <;> omega
/-- a root and what is left -/
def RetSq (w : World) (A : Int) (e : Ending) (w' : World) : Prop :=
  ∃ Ar nr cr As ns cs R re, e = .returned (.tuple #[.slice Ar nr cr, .slice As ns cs]) ∧ NV w' (.slice Ar nr cr) R ∧ NV w' (.slice As ns cs) re ∧ Hid (R * R + re = A ∧ 0 ≤ re ∧ re ≤ 2 * R ∧ 0 ≤ R) ∧ Below w.heap.size w w'
end NC
end Go.Proofs.YtejglcpiihkenaaGreatDoor

/-
  Package nat: Bits, Root.
-/
namespace Go.Proofs.YtejglcpiihkenaaGreatDoor
set_option linter.unusedVariables false
set_option linter.unusedSimpArgs false
open Go.RowKit
set_option linter.unusedVariables false
namespace NC
open L
open Z (Nz Tz cmpv)
/-- how many bits -/
def RetBits (w : World) (er z : Int) (e : Ending) (w' : World) : Prop := ∃ n : Nat, e = .returned (.tuple #[.int .i64 n, .int .i64 er]) ∧ n ≤ 12800 ∧ Hid (er = 0 → z < 2 ^ n ∧ (n = 0 ∨ 2 ^ (n - 1) ≤ z)) ∧ Hid (er ≠ 0 → n = 0) ∧ w = w'
theorem Bits_c (v : Value) (l : List Int) (w : World) (hs : Sl .u32 w v l) (hl : l.length ≤ 9223372036854775807) (Ll : Lim l) : Calls Tryz.prog 68 #[v] w (RetBits w (chk l) (lv l)) := by
  have C := Lib.hid (Check_c v l w hs hl)
  obtain ⟨A, c, rfl, hc⟩ := hs.form
  obtain ⟨r, hr⟩ : ∃ r, r = chk l := ⟨_, rfl⟩
  rw [← hr] at C ⊢
  by_cases h : r = 0
  · have h1 := chk_ok.1 (hr.symm.trans h)
    by_cases hne : l = []
    · subst hne
      have e0 : (([] : List Int).length : Int) = 0 := by simp
      clear hs hl Ll hr h1
      subst h
      simp only [List.length_nil] at C hc ⊢
      go_enter Tryz.func68, Tryz.ntmps68
      go_wp2_with (first | (go_at_call 92; (with_reducible refine (C.out).mono ?_); rintro e w' ⟨rfl, rfl⟩))
      go_ret2
      exact ⟨0, rfl, by omega, fun _ => ⟨by simp [lv], .inl rfl⟩, fun h => rfl, rfl⟩
    · obtain ⟨m, hm⟩ : ∃ m, l.length = m + 1 := ⟨l.length - 1, by have := List.length_pos_iff.2 hne; omega⟩
      obtain ⟨ad, c', e, hc', _, hcell⟩ := hs.at_ m (by omega)
      injection e with e1 e2 e3
      subst e1
      have htop : 0 < l.getD m 0 := by
        have h2 := h1.2 hne
        rw [List.getLast_eq_getElem] at h2
        have h3 : l.getD m 0 = l[l.length - 1]'(by omega) := by
          rw [List.getD_eq_getElem?_getD, List.getElem?_eq_getElem (by omega)]
          simp [hm]
        have := Ll.at_ m
        rw [h3] at this ⊢
        omega
      have bt := Ll.at_ m
      obtain ⟨t1, t2⟩ := top_bd Ll hm
      obtain ⟨n, hn1, hn2, hn3, hn4⟩ := bitLen_bd (l.getD m 0) htop (by omega)
      have LN := Len32_c (l.getD m 0) w (by omega) (by omega)
      rw [hn1] at LN
      have LN := Lib.hid LN
      have hp := pow_pos m
      have b1 : lv l < 2 ^ (32 * m + n + 1) := by
        rw [show 32 * m + n + 1 = 32 * m + (n + 1) by omega, Int.pow_add, ← pow_two]
        exact Int.lt_of_lt_of_le t2 (Int.mul_le_mul_of_nonneg_left (by omega) (Int.le_of_lt hp))
      have b2 : 2 ^ (32 * m + n) ≤ lv l := by
        rw [Int.pow_add, ← pow_two]
        exact Int.le_trans (Int.mul_le_mul_of_nonneg_left hn3 (Int.le_of_lt hp)) t1
      have HB := Lib.hid (And.intro b1 b2)
      have hm4 : m + 1 ≤ 400 := by have := h1.1; omega
      rw [hm] at hc C ⊢
      generalize l.getD m 0 = tp at *
      clear hs hl Ll hr h1 hne hm htop t1 t2 hn1 hn3 hn4 b1 b2 hp e2 e3 hc'
      subst h
      have e1 : ((m : Int) + 1 == 0) = false := by simp; omega
      go_enter Tryz.func68, Tryz.ntmps68
      go_wp2_with (first | (go_at_call 92; (with_reducible refine (C.out).mono ?_); rintro e w' ⟨rfl, rfl⟩) | (go_at_call 93; (with_reducible refine (LN.out).mono ?_); rintro e w' ⟨rfl, rfl⟩))
      go_ret2
      refine ⟨32 * m + n + 1, ?_, by omega, fun _ => ⟨HB.out.1, .inr (by simpa using HB.out.2)⟩, fun h => absurd rfl h, rfl⟩
      have e5 : ((32 * m + n + 1 : Nat) : Int) = (m : Int) * 32 + ((n : Int) + 1) := by omega
      rw [e5]
      rfl
  · have e1 : (r != 0) = true := by simp [h]
    clear hs hl Ll hr
    have H := Lib.hid h
    clear h
    go_enter Tryz.func68, Tryz.ntmps68
    go_wp2_with (first | (go_at_call 92; (with_reducible refine (C.out).mono ?_); rintro e w' ⟨rfl, rfl⟩))
    go_ret2
    exact ⟨0, rfl, by omega, fun h => absurd h H.out, fun _ => rfl, rfl⟩
/-- a root, and whether something is left -/
def RetRt (w : World) (er z : Int) (e : Ending) (w' : World) : Prop :=
  ∃ A n c b R, e = .returned (.tuple #[.slice A n c, .bool b, .int .i64 er]) ∧ NV w' (.slice A n c) R ∧ Below w.heap.size w w' ∧ Hid (er = 0 → R * R ≤ z ∧ z < (R + 1) * (R + 1) ∧ 0 ≤ R ∧ b = decide (R * R ≠ z)) ∧ Hid (er ≠ 0 → R = 0 ∧ b = false)
end NC
end Go.Proofs.YtejglcpiihkenaaGreatDoor

/-
  Strings as lists of bytes; the decimal text of a number.
-/
namespace Go.Proofs.YtejglcpiihkenaaGreatDoor
set_option linter.unusedVariables false
set_option linter.unusedSimpArgs false
open Go.RowKit
set_option linter.unusedVariables false
def bs (L : List UInt8) : ByteArray := ⟨L.toArray⟩
theorem bs_size (L : List UInt8) : (bs L).size = L.length := by show L.toArray.size = _; simp
theorem bs_app (L M : List UInt8) : bs L ++ bs M = bs (L ++ M) := ByteArray.mk_append_mk L M
theorem bs_toList (L : List UInt8) : (bs L).toList = L := ByteArray.toList_mk L
theorem bs_inj {L M : List UInt8} (h : bs L = bs M) : L = M := by
  have := congrArg (fun b : ByteArray => b.data.toList) h
  simpa [bs] using this
/-- one digit -/
def dg (n : Nat) : UInt8 := UInt8.ofNat (48 + n % 10)
def dec (n : Nat) : List UInt8 := if n < 10 then [dg n] else dec (n / 10) ++ [dg n]
termination_by n
decreasing_by omega
theorem dec_small {n : Nat} (h : n < 10) : dec n = [dg n] := by rw [dec, if_pos h]
theorem dec_more {n : Nat} (h : ¬ n < 10) : dec n = dec (n / 10) ++ [dg n] := by rw [dec, if_neg h]
theorem dec_len (n : Nat) : (dec n).length ≤ n + 1 := by
  induction n using Nat.strongRecOn with
  | ind n ih =>
    by_cases h : n < 10
    · rw [dec_small h]; simp
    · rw [dec_more h]
      have := ih (n / 10) (by omega)
      simp; omega
theorem dec_ne (n : Nat) : dec n ≠ [] := by
  by_cases h : n < 10
  · rw [dec_small h]; simp
  · rw [dec_more h]; simp
theorem ten_ext (k : Nat) (h : k < 10) : (ByteArray.mk #[48, 49, 50, 51, 52, 53, 54, 55, 56, 57]).extract k (k + 1) = bs [dg k] := by
  have : ∀ k : Fin 10, (ByteArray.mk #[48, 49, 50, 51, 52, 53, 54, 55, 56, 57]).extract k.1 (k.1 + 1) = bs [dg k.1] := by decide
  exact this ⟨k, h⟩
theorem dg_mod (n : Nat) : dg (n % 10) = dg n := by unfold dg; rw [Nat.mod_mod]
end Go.Proofs.YtejglcpiihkenaaGreatDoor

/-
  Plain mathematics: decimal digits, the lowest first; noughts at the end; a list turned round in place; division by a limb.
-/
namespace Go.Proofs.YtejglcpiihkenaaGreatDoor.L
set_option linter.unusedVariables false
set_option linter.unusedSimpArgs false
open Z (Nz Tz cmpv)
/-- so many decimal digits of n, the lowest first, as bytes' numbers -/
def dlr (n : Nat) : Nat → List Int
  | 0 => []
  | k + 1 => (48 + (n % 10 : Nat) : Int) :: dlr (n / 10) k
theorem dlr_len (n k : Nat) : (dlr n k).length = k := by
  induction k generalizing n with
  | zero => rfl
  | succ k ih => simp [dlr, ih]
theorem dlr_succ (n k : Nat) : dlr n (k + 1) = dlr n k ++ [(48 + (n / 10 ^ k % 10 : Nat) : Int)] := by
  induction k generalizing n with
  | zero => simp [dlr]
  | succ k ih =>
    rw [dlr, ih (n / 10), dlr]
    simp only [List.cons_append]
    rw [Nat.div_div_eq_div_mul, Nat.pow_succ, Nat.mul_comm 10]
theorem dlr_zero (k : Nat) : dlr 0 k = List.replicate k 48 := by
  induction k with
  | zero => rfl
  | succ k ih => simp [dlr, ih, List.replicate_succ]
/-- the decimal text, the lowest first -/
def rdec (n : Nat) : List Int := (dec n).reverse.map fun u => (u.toNat : Int)
theorem rdec_small {n : Nat} (h : n < 10) : rdec n = [(48 + n : Int)] := by
  unfold rdec
  rw [dec_small h]
  simp only [List.reverse_cons, List.reverse_nil, List.nil_append, List.map_cons, List.map_nil]
  unfold dg
  congr 1
  rw [UInt8.toNat_ofNat']
  omega
theorem rdec_more {n : Nat} (h : ¬ n < 10) : rdec n = (48 + (n % 10 : Nat) : Int) :: rdec (n / 10) := by
  unfold rdec
  rw [dec_more h]
  simp only [List.reverse_append, List.reverse_cons, List.reverse_nil, List.nil_append, List.map_cons, List.singleton_append]
  unfold dg
  congr 1
  rw [UInt8.toNat_ofNat']
  omega
theorem rdec_spec (n : Nat) (h0 : 0 < n) : rdec n ≠ [] ∧ (∀ h : rdec n ≠ [], (rdec n).getLast h ≠ 48) ∧ 10 ^ ((rdec n).length - 1) ≤ n ∧ ∀ k, (rdec n).length ≤ k → dlr n k = rdec n ++ List.replicate (k - (rdec n).length) 48 := by
  induction n using Nat.strongRecOn with
  | ind n ih =>
    by_cases h : n < 10
    · rw [rdec_small h]
      refine ⟨by simp, fun _ => by simp; omega, by simp; omega, fun k hk => ?_⟩
      obtain ⟨k, rfl⟩ : ∃ k', k = k' + 1 := ⟨k - 1, by simp at hk; omega⟩
      rw [dlr, show n / 10 = 0 by omega, dlr_zero, Nat.mod_eq_of_lt h]
      simp
    · obtain ⟨h1, h2, h3, h4⟩ := ih (n / 10) (by omega) (by omega)
      rw [rdec_more h]
      have hl := List.length_pos_iff.2 h1
      refine ⟨by simp, fun _ => ?_, ?_, fun k hk => ?_⟩
      · rw [List.getLast_cons h1]; exact h2 h1
      · rw [List.length_cons, Nat.add_sub_cancel]
        have : 10 ^ (rdec (n / 10)).length = 10 ^ ((rdec (n / 10)).length - 1) * 10 := by rw [← Nat.pow_succ]; congr 1; omega
        omega
      · rw [List.length_cons] at hk
        obtain ⟨k, rfl⟩ : ∃ k', k = k' + 1 := ⟨k - 1, by omega⟩
        rw [dlr, h4 k (by omega), List.length_cons, Nat.add_sub_add_right]; rfl
theorem trim_uniq {A B : List Int} {i j : Nat} (h : A ++ List.replicate i 48 = B ++ List.replicate j 48) (hA : ∀ h : A ≠ [], A.getLast h ≠ 48) (hB : ∀ h : B ≠ [], B.getLast h ≠ 48) : A = B := by
  have key : ∀ (A B : List Int) (i j : Nat), A ++ List.replicate i (48 : Int) = B ++ List.replicate j 48 → (∀ h : B ≠ [], B.getLast h ≠ 48) → ¬ A.length < B.length := by
    intro A B i j h hB hlt
    have hne : B ≠ [] := by intro e; subst e; simp at hlt
    refine hB hne ?_
    rw [List.getLast_eq_getElem]
    have e : (A ++ List.replicate i (48 : Int))[B.length - 1]? = (B ++ List.replicate j 48)[B.length - 1]? := by rw [h]
    have hl := congrArg List.length h
    simp only [List.length_append, List.length_replicate] at hl
    rw [List.getElem?_append_right (by omega), List.getElem?_append_left (by omega), List.getElem?_replicate, if_pos (by omega), List.getElem?_eq_getElem (by omega)] at e
    injection e with e
    exact e.symm
  have h1 := key A B i j h hB
  have h2 := key B A j i h.symm hA
  have hl : A.length = B.length := by omega
  exact (List.append_inj h hl).1
/-- what is left when the noughts at the end are struck is the text, the lowest first -/
theorem strip_dec {n k m : Nat} (h0 : 0 < n) (hk : n < 10 ^ k) (hm : m ≤ k) (ht : ∀ d ∈ (dlr n k).drop m, d = 48) (hl : m = 0 ∨ (dlr n k).getD (m - 1) 0 ≠ 48) : (dlr n k).take m = rdec n := by
  obtain ⟨h1, h2, h3, h4⟩ := rdec_spec n h0
  have hlen : (rdec n).length ≤ k := by
    rcases Nat.lt_or_ge k (rdec n).length with h | h
    · have := Nat.pow_le_pow_right (by decide : 0 < 10) (show k ≤ (rdec n).length - 1 by omega)
      omega
    · exact h
  have e1 := h4 k hlen
  have e2 : dlr n k = (dlr n k).take m ++ List.replicate (k - m) 48 := by
    have : (dlr n k).drop m = List.replicate (k - m) 48 := by
      have e := List.eq_replicate_of_mem (a := (48 : Int)) ht
      rw [List.length_drop, dlr_len] at e
      exact e
    rw [← this, List.take_append_drop]
  refine trim_uniq (e2.symm.trans e1) (fun hne => ?_) h2
  rcases hl with rfl | hl
  · simp at hne
  · have hm0 : 0 < m := by rcases Nat.eq_zero_or_pos m with rfl | h; · simp at hne
                           · exact h
    rw [List.getLast_eq_getElem]
    have hlm : ((dlr n k).take m).length = m := by rw [List.length_take, dlr_len]; omega
    have hlk := dlr_len n k
    rw [List.getD_eq_getElem?_getD, List.getElem?_eq_getElem (by omega)] at hl
    simp only [List.getElem_take, hlm]
    exact hl
theorem rdec_rev (n : Nat) : (rdec n).reverse = (dec n).map fun u => (u.toNat : Int) := by unfold rdec; rw [List.map_reverse, List.reverse_reverse]
/-- division by one limb under way, from the highest one on -/
structure DbI (X : List Int) (q : Int) (k : Nat) (M : List Int) (r : Int) : Prop where
  len : M.length = X.length
  lim : Lim M
  r0 : 0 ≤ r
  r1 : r < q
  rest : ∀ j, j < k → M.getD j 0 = X.getD j 0
  sum : lv (M.drop k) * q + r = lv (X.drop k)
theorem DbI.start {X : List Int} {q : Int} (h : Lim X) (h0 : 0 < q) : DbI X q X.length X 0 := ⟨rfl, h, by omega, h0, fun _ _ => rfl, by simp [lv]⟩
theorem DbI.step {X M : List Int} {q r x : Int} {k : Nat} (h : DbI X q (k + 1) M r) (hk : k < X.length) (hx : X.getD k 0 = x) (x0 : 0 ≤ x) (x1 : x < 4294967296) :
    DbI X q k (M.set k ((r * 4294967296 + x) / q)) ((r * 4294967296 + x) % q) ∧ (r * 4294967296 + x) / q < 4294967296 ∧ 0 ≤ (r * 4294967296 + x) / q := by
  have r0 := h.r0
  have r1 := h.r1
  have hq : 0 < q := by omega
  have e := Int.emod_add_mul_ediv (r * 4294967296 + x) q
  have z0 : 0 ≤ (r * 4294967296 + x) / q := Int.ediv_nonneg (by omega) (by omega)
  have z1 : (r * 4294967296 + x) / q < 4294967296 := by rw [Int.ediv_lt_iff_lt_mul hq]; omega
  refine ⟨⟨by simp [h.len], h.lim.set _ z0 z1, Int.emod_nonneg _ (by omega), Int.emod_lt_of_pos _ hq, fun j hj => ?_, ?_⟩, z1, z0⟩
  · rw [getD_set (by rw [h.len]; exact hk), if_neg (by omega)]; exact h.rest j (by omega)
  · have hkM : k < M.length := by rw [h.len]; exact hk
    have e1 := lv_drop (L := M.set k ((r * 4294967296 + x) / q)) k (by simp [h.len]; exact hk)
    rw [getD_set (by rw [h.len]; exact hk), if_pos rfl, show (M.set k ((r * 4294967296 + x) / q)).drop (k + 1) = M.drop (k + 1) by rw [List.drop_set, if_pos (by omega)]] at e1
    rw [e1, lv_drop (L := X) k hk, hx, ← h.sum]
    grind
theorem DbI.done {X M : List Int} {q r : Int} (h : DbI X q 0 M r) : lv M = lv X / q ∧ r = lv X % q := by
  have e := h.sum
  simp only [List.drop_zero] at e
  have r0 := h.r0
  have r1 := h.r1
  rw [← e]
  refine ⟨?_, ?_⟩
  · rw [Int.add_comm, Int.add_mul_ediv_right _ _ (by omega), Int.ediv_eq_zero_of_lt r0 r1]; omega
  · rw [Int.add_comm, Int.add_mul_emod_self_right, Int.emod_eq_of_lt r0 r1]
/-- a list being turned round in place -/
structure RvI (X : List Int) (i : Nat) (M : List Int) : Prop where
  len : M.length = X.length
  cell : ∀ t, t < X.length → M.getD t 0 = if t < i ∨ X.length - 1 - i < t then X.getD (X.length - 1 - t) 0 else X.getD t 0
theorem RvI.start (X : List Int) : RvI X 0 X := ⟨rfl, fun t ht => by rw [if_neg (by omega)]⟩
theorem RvI.step {X M : List Int} {i : Nat} (h : RvI X i M) (hi : 2 * i + 1 < X.length) : RvI X (i + 1) ((M.set i (M.getD (X.length - 1 - i) 0)).set (X.length - 1 - i) (M.getD i 0)) := by
  have hl := h.len
  have hl1 : (M.set i (M.getD (X.length - 1 - i) 0)).length = X.length := by simp [hl]
  refine ⟨by simp [hl], fun t ht => ?_⟩
  rw [getD_set (by omega), getD_set (by omega)]
  have c1 := h.cell i (by omega)
  have c2 := h.cell (X.length - 1 - i) (by omega)
  rw [if_neg (by omega)] at c1 c2
  by_cases e1 : t = X.length - 1 - i
  · subst e1
    rw [if_pos rfl, if_pos (by omega), c1]
    congr 1; omega
  · rw [if_neg e1]
    by_cases e2 : t = i
    · subst e2
      rw [if_pos rfl, if_pos (by omega), c2]
    · rw [if_neg e2, h.cell t ht]
      by_cases e3 : t < i ∨ X.length - 1 - i < t
      · rw [if_pos e3, if_pos (by omega)]
      · rw [if_neg e3, if_neg (by omega)]
theorem RvI.done {X M : List Int} {i : Nat} (h : RvI X i M) (hi : X.length ≤ 2 * i + 1) : M = X.reverse := by
  have hl := h.len
  apply List.ext_getElem (by simp [hl])
  intro t h1 h2
  have c := h.cell t (by omega)
  rw [List.getElem_reverse]
  rw [List.getD_eq_getElem?_getD, List.getElem?_eq_getElem (by omega)] at c
  by_cases e : t < i ∨ X.length - 1 - i < t
  · rw [if_pos e, List.getD_eq_getElem?_getD, List.getElem?_eq_getElem (by omega)] at c
    exact c
  · rw [if_neg e, List.getD_eq_getElem?_getD, List.getElem?_eq_getElem (by omega)] at c
    have : X.length - 1 - t = t := by omega
    simp only [this]
    exact c
end Go.Proofs.YtejglcpiihkenaaGreatDoor.L

/-
  Package nat: divideBy; bytes.TrimRight and slices.Reverse of bytes.
-/
namespace Go.Proofs.YtejglcpiihkenaaGreatDoor
set_option linter.unusedVariables false
set_option linter.unusedSimpArgs false
open Go.RowKit
set_option linter.unusedVariables false
namespace NC
open L
open Z (Nz Tz cmpv)
/-- bytes.trimRightByte: the same slice, maybe shorter -/
def RetTb (w : World) (A : Option Addr) (c : Nat) (L : List Int) (b : Int) (e : Ending) (w' : World) : Prop :=
  ∃ m, e = .returned (.slice A m c) ∧ m ≤ L.length ∧ Hid ((∀ d ∈ L.drop m, d = b) ∧ (m = 0 ∨ L.getD (m - 1) 0 ≠ b)) ∧ w = w'
abbrev OwnB (w : World) (base : Nat) (v : Value) (X : List Int) : Prop := Own .u8 5 w base v X
section
variable {w : World} {base g n c : Nat} {X : List Int}
theorem OwnB.cell (h : OwnB w base (.slice (some ⟨g, 0, none⟩) n c) X) (j : Nat) (hj : j < X.length) : w.cell? ⟨g, j, none⟩ = some (.int .u8 (X.getD j 0)) := by
  have hn : n = X.length := (Own.sl h).len_.1
  subst hn
  have := World.ownsRow.cellAt h j (by omega)
  rw [this, List.getElem?_map, List.getD_eq_getElem?_getD, List.getElem?_eq_getElem hj]; rfl
theorem OwnB.frozen (h : OwnB w base (.slice (some ⟨g, 0, none⟩) n c) X) (j : Nat) : w.frozen? ⟨g, j, none⟩ = false := by
  have hn : n = X.length := (Own.sl h).len_.1
  subst hn
  exact World.ownsRow.frozenAt h j
theorem OwnB.set_ (h : OwnB w base (.slice (some ⟨g, 0, none⟩) n c) X) (j : Nat) (z : Int) : OwnB (w.setCell ⟨g, j, none⟩ (.int .u8 z)) base (.slice (some ⟨g, 0, none⟩) n c) (X.set j z) := by
  have hn : n = X.length := (Own.sl h).len_.1
  subst hn
  have := (World.ownsRow.stored h j (.int .u8 z)).1
  unfold OwnB Own
  rw [List.map_set, List.length_set]
  exact this
theorem OwnB.take {A : Option Addr} {n c m : Nat} (h : OwnB w base (.slice A n c) X) (hm : m ≤ n) (hA : A ≠ none) : OwnB w base (.slice A m c) (X.take m) := by
  have hn : n = X.length := (Own.sl h).len_.1
  have hl : (X.take m).length = m := by rw [List.length_take, ← hn]; exact Nat.min_eq_left hm
  unfold OwnB Own
  rw [hl]
  refine ⟨by rw [List.length_map, hl]; omega, ?_⟩
  rcases h.2 with ⟨e, _⟩ | ⟨g, cap, cur, e, hg, hgg, hc, hmx, hsz, htk⟩
  · injection e with e1; exact absurd e1 hA
  · injection e with e1 e2 e3
    subst e1 e3
    refine .inr ⟨g, _, cur, rfl, hg, hgg, by omega, hmx, hsz, ?_⟩
    rw [List.map_take, ← htk, List.take_take, Nat.mul_one, Nat.mul_one, Nat.min_eq_left (by omega)]
end
/-- turned round in place -/
def RetRv (w : World) (base g n c : Nat) (X : List Int) (e : Ending) (w' : World) : Prop := e = .returned (.tuple #[]) ∧ w.grownBy w' (some g) ∧ OwnB w' base (.slice (some ⟨g, 0, none⟩) n c) X.reverse
end NC
end Go.Proofs.YtejglcpiihkenaaGreatDoor

/-
  Package nat: Text.
-/
namespace Go.Proofs.YtejglcpiihkenaaGreatDoor
set_option linter.unusedVariables false
set_option linter.unusedSimpArgs false
open Go.RowKit
set_option linter.unusedVariables false
namespace NC
open L
open Z (Nz Tz cmpv)
theorem digit_eq (x t : Nat) (ht : t < 9) : x % 1000000000 / 10 ^ t % 10 = x / 10 ^ t % 10 := by
  rcases (by omega : t = 0 ∨ t = 1 ∨ t = 2 ∨ t = 3 ∨ t = 4 ∨ t = 5 ∨ t = 6 ∨ t = 7 ∨ t = 8) with rfl | rfl | rfl | rfl | rfl | rfl | rfl | rfl | rfl <;> simp only [Nat.pow_zero, Nat.reducePow] <;> omega
theorem Head.kept {w w' : World} {B g c : Nat} {l : List Int} {row : Option Nat} (h : Head w B g c l) (hg : w.grownBy w' row) (hr : row ≠ some g) : Head w' B g c l := by
  obtain ⟨h1, h2, cs, hb, hw⟩ := h
  exact ⟨h1, h2, cs, Blk.grown hb hg (fun e => hr e.symm), hw⟩
theorem Head.alloc {w : World} {B g c : Nat} {l : List Int} (h : Head w B g c l) (o : Obj) : Head (w.alloc o) B g c l := by
  obtain ⟨h1, h2, cs, hb, hw⟩ := h
  exact ⟨h1, h2, cs, hb.alloc o, hw⟩
theorem Head.lt {w : World} {B g c : Nat} {l : List Int} (h : Head w B g c l) : g < w.heap.size := by
  obtain ⟨_, _, cs, hb, _⟩ := h
  exact hb.lt
/-- a rest of limbs that is being divided -/
structure RM (w : World) (B g n c : Nat) (z : Nat) (M : List Int) : Prop where
  h : Head w B g c M
  n : M.length = n
  l : Lim M
  nz : Nz M
  eq : lv M = z
theorem dec_bound {l : List Int} (Ll : Lim l) (hl : l.length ≤ 400) {Zn : Nat} (hZ : lv l = Zn) : ∃ N, N ≤ 4000 ∧ Zn < 10 ^ N := by
  refine ⟨10 * l.length, by omega, ?_⟩
  have a1 := lv_lt Ll
  rw [hZ] at a1
  have a3 : ((Zn : Nat) : Int) < ((4294967296 ^ l.length : Nat) : Int) := by rw [Int.natCast_pow]; exact a1
  have a2 : Zn < 4294967296 ^ l.length := Int.ofNat_lt.1 a3
  rw [Nat.pow_mul]
  exact Nat.lt_of_lt_of_le a2 (Nat.pow_le_pow_left (by decide) _)
theorem Head.take {w : World} {B g c m : Nat} {l : List Int} (h : Head w B g c l) (hm : m ≤ l.length) : Head w B g c (l.take m) := by
  obtain ⟨h1, h2, cs, hb, hw⟩ := h
  refine ⟨h1, by rw [List.length_take]; omega, cs, hb, fun j hj => ?_⟩
  rw [List.length_take] at hj
  rw [hw j (by omega), List.getD_eq_getElem?_getD, List.getD_eq_getElem?_getD, List.getElem?_take, if_pos (by omega)]
/-- a rest divided by 10^9: what is left over, and the rest -/
def RetDb (w : World) (B g n c z : Nat) (e : Ending) (w' : World) : Prop :=
  ∃ M, e = .returned (.int .u32 ((z % 1000000000 : Nat) : Int)) ∧ w.grownBy w' (some g) ∧ Hid (Head w' B g c M ∧ M.length = n ∧ Lim M ∧ lv M = (z / 1000000000 : Nat))
/-- the text of a number, and an error -/
def RetTx (w : World) (er : Int) (s : ByteArray) (e : Ending) (w' : World) : Prop := e = .returned (.tuple #[.string s, .int .i64 er]) ∧ Below w.heap.size w w'
end NC
end Go.Proofs.YtejglcpiihkenaaGreatDoor

/-
  ulpkeep.ok: true just where all errors handed in are OK; it only reads.
-/
namespace Go.Proofs.YtejglcpiihkenaaGreatDoor
set_option linter.unusedVariables false
set_option linter.unusedSimpArgs false
open Go.RowKit
set_option linter.unusedVariables false
namespace OkC
theorem all_snoc (zs : List Int) (k : Nat) (z : Int) (hk : k < zs.length) (hz : zs.getD k 0 = z) (ha : (zs.take k).all (· == 0) = true) (h : (z == 0) = true) :
    (zs.take (k + 1)).all (· == 0) = true := by
  rw [List.take_succ_eq_append_getElem hk, List.all_append, ha]
  rw [List.getD_eq_getElem?_getD, List.getElem?_eq_getElem hk] at hz
  simp at hz
  simp [hz, h]
theorem all_no (zs : List Int) (k : Nat) (z : Int) (hk : k < zs.length) (hz : zs.getD k 0 = z) (h : (z == 0) = false) : zs.all (· == 0) = false := by
  rw [List.getD_eq_getElem?_getD, List.getElem?_eq_getElem hk] at hz
  simp at hz
  rw [List.all_eq_false]
  exact ⟨zs[k], List.getElem_mem hk, by rw [hz]; simpa using h⟩
theorem cell_arr (w : World) (C : Array Value) (t : TypeId) (b i : Nat) (v : Value) (hb : b = w.heap.size) (h : C[i]? = some v) : (w.alloc (.cells C t)).cell? ⟨b, 0 + i, none⟩ = some v := by
  subst hb
  rw [Nat.zero_add, World.cell?_alloc_new, h]
end OkC
end Go.Proofs.YtejglcpiihkenaaGreatDoor

/-
  slices.Equal of limbs; package nat: Shift up, and its errors; ulpkeep.natLives.
-/
namespace Go.Proofs.YtejglcpiihkenaaGreatDoor
set_option linter.unusedVariables false
set_option linter.unusedSimpArgs false
open Go.RowKit
set_option linter.unusedVariables false
namespace NC
open L
open Z (Nz Tz cmpv)
/-- what Shift tells -/
def RetSh (w : World) (er z : Int) (b : Bool) (e : Ending) (w' : World) : Prop := ∃ A n c, e = .returned (.tuple #[.slice A n c, .bool b, .int .i64 er]) ∧ NV w' (.slice A n c) z ∧ Below w.heap.size w w'
theorem RetSh.err {w w' : World} {er : Int} (hb : Below w.heap.size w w') : RetSh w er 0 false (.returned (.tuple #[.slice none 0 0, .bool false, .int .i64 er])) w' := ⟨none, 0, 0, rfl, NV.nil _ _ _, hb⟩
theorem ShiftErr_c (v : Value) (l : List Int) (n : Int) (w : World) (hs : Sl .u32 w v l) (hl : l.length ≤ 9223372036854775807) (h : chk l ≠ 0) : Calls Tryz.prog 89 #[v, .int .i64 n] w (RetSh w (chk l) 0 false) := by
  have C := Lib.hid (Check_c v l w hs hl)
  obtain ⟨r, hr⟩ : ∃ r, r = chk l := ⟨_, rfl⟩
  rw [← hr] at C h ⊢
  have e1 : (r != 0) = true := by simp [h]
  clear hs hl hr h
  go_enter Tryz.func89, Tryz.ntmps89
  go_wp2_with (first | (go_at_call 92; (with_reducible refine (C.out).mono ?_); rintro e w' ⟨rfl, rfl⟩))
  go_ret3
  exact RetSh.err (Below.refl _ _)
theorem ShiftFar_c (v : Value) (l : List Int) (n : Int) (w : World) (hs : Sl .u32 w v l) (hl : l.length ≤ 9223372036854775807) (h : chk l = 0) (hn : n < -20000 ∨ 20000 < n) : Calls Tryz.prog 89 #[v, .int .i64 n] w (RetSh w 1 0 false) := by
  have C := Lib.hid (Check_c v l w hs hl)
  rw [h] at C
  clear hs hl h
  rcases hn with hn | hn
  · go_enter Tryz.func89, Tryz.ntmps89
    go_wp2_with (first | (go_at_call 92; (with_reducible refine (C.out).mono ?_); rintro e w' ⟨rfl, rfl⟩))
    go_ret3
    exact RetSh.err (Below.refl _ _)
  · have h2 : ¬ n < -20000 := by omega
    go_enter Tryz.func89, Tryz.ntmps89
    go_wp2_with (first | (go_at_call 92; (with_reducible refine (C.out).mono ?_); rintro e w' ⟨rfl, rfl⟩))
    go_ret3
    exact RetSh.err (Below.refl _ _)
theorem ShiftUp_c (v : Value) (l : List Int) (n : Nat) (w : World) (hs : Sl .u32 w v l) (Ll : Lim l) (h : chk l = 0) (hn : n ≤ 20000) : Calls Tryz.prog 89 #[v, .int .i64 n] w (RetSh w 0 (lv l * 2 ^ n) false) := by
  have h1 := chk_ok.1 h
  have C := Lib.hid (Check_c v l w hs (by omega))
  have S := Lib.hid (shiftUp_c v l n w hs Ll (by omega) (by omega))
  rw [h] at C
  generalize lv l * 2 ^ n = z at *
  have h2 : ¬ (n : Int) < -20000 := by omega
  have h3 : ¬ (20000 : Int) < n := by omega
  have h4 : ¬ (n : Int) < 0 := by omega
  clear hs Ll h h1
  go_enter Tryz.func89, Tryz.ntmps89
  go_wp2_with (first | (go_at_call 92; (with_reducible refine (C.out).mono ?_); rintro e w' ⟨rfl, rfl⟩) | (go_at_call 112; (with_reducible refine (S.out).mono ?_); rintro e w2 ⟨A, m, c, rfl, hv, hb⟩))
  go_ret3
  exact ⟨A, m, c, rfl, hv, hb⟩
end NC
end Go.Proofs.YtejglcpiihkenaaGreatDoor

/-
  Package nat's contracts by numbers: what each argument tells, and its error.
-/
namespace Go.Proofs.YtejglcpiihkenaaGreatDoor
set_option linter.unusedVariables false
set_option linter.unusedSimpArgs false
open Go.RowKit
set_option linter.unusedVariables false
namespace NC
open L
open Z (Nz Tz cmpv)
/-- limbs that tell 'z', and what Check tells of them -/
def PV (w : World) (v : Value) (er z : Int) : Prop := ∃ l, Sl .u32 w v l ∧ Lim l ∧ l.length ≤ 9223372036854775807 ∧ chk l = er ∧ lv l = z
def big3 : Int := 4294967296 ^ 3000
theorem PV.below {w w' : World} {v : Value} {er z : Int} (h : PV w v er z) (hb : Below w.heap.size w w') : PV w' v er z := by
  obtain ⟨l, h1, h2⟩ := h
  exact ⟨l, h1.below hb, h2⟩
theorem PV.drewN {w : World} {v : Value} {er z : Int} (h : PV w v er z) (k : Nat) : PV (w.drewN k) v er z := h
theorem PV.nv {w : World} {v : Value} {z : Int} (h : PV w v 0 z) : NV w v z := by
  obtain ⟨l, h1, h2, h3, h4, h5⟩ := h
  exact ⟨l, h1, h2, (chk_ok.1 h4).2, h5⟩
theorem PV.small {w : World} {v : Value} {er z : Int} (h : PV w v er z) : 0 ≤ z ∧ (er = 0 → z < 4294967296 ^ 400) := by
  obtain ⟨l, h1, h2, h3, h4, h5⟩ := h
  refine ⟨by rw [← h5]; exact lv_nonneg h2, fun e => ?_⟩
  rw [e] at h4
  rw [← h5]
  exact Int.lt_of_lt_of_le (lv_lt h2) (pow_mono (chk_ok.1 h4).1)
/-- the error of limbs in normal form: too many -/
def erz (z : Int) : Int := if z < 4294967296 ^ 400 then 0 else 2
theorem NV.pv {w : World} {v : Value} {z : Int} (h : NV w v z) (hz : z < big3) : PV w v (erz z) z := by
  obtain ⟨l, h1, h2, h3, h4⟩ := h
  have hl : l.length ≤ 3000 := len_le h2 h3 (by rw [h4]; exact hz)
  refine ⟨l, h1, h2, by omega, ?_, h4⟩
  unfold erz
  by_cases hs : z < 4294967296 ^ 400
  · rw [if_pos hs]
    exact chk_ok.2 ⟨len_le h2 h3 (by rw [h4]; exact hs), h3⟩
  · rw [if_neg hs]
    unfold chk
    rw [if_pos]
    rcases Nat.lt_or_ge 400 l.length with h | h
    · exact h
    · have := Int.lt_of_lt_of_le (lv_lt h2) (pow_mono h)
      omega
/-- the first error of two -/
def ee (a b : Int) : Int := if a ≠ 0 then a else b
theorem ee0 {a b : Int} : ee a b = 0 ↔ a = 0 ∧ b = 0 := by
  unfold ee
  by_cases h : a = 0
  · rw [if_neg (by simpa using h)]; simp [h]
  · rw [if_pos h]; simp [h]
theorem big3_pos : (0 : Int) < big3 := pow_pos 3000
theorem big3_bds {a b : Int} (h1 : a < 4294967296 ^ 400) (h2 : b < 4294967296 ^ 400) (h3 : 0 ≤ a) (h4 : 0 ≤ b) : a + b < big3 ∧ a * b < big3 ∧ a < big3 ∧ b < big3 := by
  unfold big3
  have e : (4294967296 : Int) ^ 400 * 4294967296 ^ 400 = 4294967296 ^ 800 := by rw [← Int.pow_add]
  have h5 : a * b ≤ 4294967296 ^ 400 * 4294967296 ^ 400 := Int.mul_le_mul (Int.le_of_lt h1) (Int.le_of_lt h2) h4 (Int.le_of_lt (pow_pos _))
  have h6 : (4294967296 : Int) ^ 801 = 4294967296 ^ 800 * 4294967296 := Int.pow_succ _ _
  have h7 := pow_pos 800
  have h8 : (4294967296 : Int) ^ 801 ≤ 4294967296 ^ 3000 := pow_mono (by decide)
  have h9 : (4294967296 : Int) ^ 400 ≤ 4294967296 ^ 800 := pow_mono (by decide)
  generalize (4294967296 : Int) ^ 3000 = c3000 at *
  generalize (4294967296 : Int) ^ 801 = c801 at *
  generalize (4294967296 : Int) ^ 800 = c800 at *
  generalize (4294967296 : Int) ^ 400 = c400 at *
  rw [e] at h5
  omega
/-- limbs that are the result of a call, and an error -/
def RetP (w : World) (er z : Int) (e : Ending) (w' : World) : Prop := ∃ A n c, e = .returned (.tuple #[.slice A n c, .int .i64 er]) ∧ PV w' (.slice A n c) (erz z) z ∧ NV w' (.slice A n c) z ∧ Below w.heap.size w w'
theorem RetL.p {w w' : World} {er z : Int} {e : Ending} (h : RetL w er z e w') (hz : z < big3) : RetP w er z e w' := by
  obtain ⟨A, n, c, rfl, hv, hb⟩ := h
  exact ⟨A, n, c, rfl, hv.pv hz, hv, hb⟩
theorem Add_p {u v : Value} {e1 e2 a b : Int} {w : World} (h1 : PV w u e1 a) (h2 : PV w v e2 b) : Calls Tryz.prog 99 #[u, v] w (RetP w (ee e1 e2) (if ee e1 e2 = 0 then a + b else 0)) := by
  have s1 := h1.small
  have s2 := h2.small
  obtain ⟨l, l1, l2, l3, l4, l5⟩ := h1
  obtain ⟨m, m1, m2, m3, m4, m5⟩ := h2
  have hc : chk2 l m = ee e1 e2 := by unfold chk2 ee; rw [l4, m4]
  have h := Add_c u v l m w l1 m1 l3 m3 l2 m2
  rw [hc, l5, m5] at h
  refine h.mono fun e w' h => RetL.p h ?_
  by_cases h0 : ee e1 e2 = 0
  · rw [if_pos h0]
    have h3 := ee0.1 h0
    exact (big3_bds (s1.2 h3.1) (s2.2 h3.2) s1.1 s2.1).1
  · rw [if_neg h0]; exact big3_pos
theorem Mul_p {u v : Value} {e1 e2 a b : Int} {w : World} (h1 : PV w u e1 a) (h2 : PV w v e2 b) : Calls Tryz.prog 102 #[u, v] w (RetP w (ee e1 e2) (if ee e1 e2 = 0 then a * b else 0)) := by
  have s1 := h1.small
  have s2 := h2.small
  obtain ⟨l, l1, l2, l3, l4, l5⟩ := h1
  obtain ⟨m, m1, m2, m3, m4, m5⟩ := h2
  have hc : chk2 l m = ee e1 e2 := by unfold chk2 ee; rw [l4, m4]
  have h := Mul_c u v l m w l1 m1 l3 m3 l2 m2
  rw [hc, l5, m5] at h
  refine h.mono fun e w' h => RetL.p h ?_
  by_cases h0 : ee e1 e2 = 0
  · rw [if_pos h0]
    have h3 := ee0.1 h0
    exact (big3_bds (s1.2 h3.1) (s2.2 h3.2) s1.1 s2.1).2.1
  · rw [if_neg h0]; exact big3_pos
def es (e1 e2 a b : Int) : Int := if ee e1 e2 = 0 then (if a < b then 1 else 0) else ee e1 e2
theorem Sub_p {u v : Value} {e1 e2 a b : Int} {w : World} (h1 : PV w u e1 a) (h2 : PV w v e2 b) : Calls Tryz.prog 125 #[u, v] w (RetP w (es e1 e2 a b) (if es e1 e2 a b = 0 then a - b else 0)) := by
  have s1 := h1.small
  have s2 := h2.small
  obtain ⟨l, l1, l2, l3, l4, l5⟩ := h1
  obtain ⟨m, m1, m2, m3, m4, m5⟩ := h2
  have hc : errSub l m = es e1 e2 a b := by unfold errSub es chk2 ee; rw [l4, m4, l5, m5]
  have h := Sub_c u v l m w l1 m1 l3 m3 l2 m2
  rw [hc, l5, m5] at h
  refine h.mono fun e w' h => RetL.p h ?_
  by_cases h0 : es e1 e2 a b = 0
  · rw [if_pos h0]
    unfold es at h0
    by_cases h4 : ee e1 e2 = 0
    · have h3 := ee0.1 h4
      have := (big3_bds (s1.2 h3.1) (s2.2 h3.2) s1.1 s2.1).2.2.1
      omega
    · rw [if_neg h4] at h0; exact absurd h0 h4
  · rw [if_neg h0]; exact big3_pos
theorem Cmp_p {u v : Value} {e1 e2 a b : Int} {w : World} (h1 : PV w u e1 a) (h2 : PV w v e2 b) : Calls Tryz.prog 124 #[u, v] w (RetQ w (.tuple #[.int .i64 (if ee e1 e2 = 0 then cmpv a b else 0), .int .i64 (ee e1 e2)])) := by
  obtain ⟨l, l1, l2, l3, l4, l5⟩ := h1
  obtain ⟨m, m1, m2, m3, m4, m5⟩ := h2
  have hc : chk2 l m = ee e1 e2 := by unfold chk2 ee; rw [l4, m4]
  have h := Cmp_c u v l m w l1 m1 l3 m3 l2 m2
  rwa [hc, l5, m5] at h
def ed (e1 e2 b : Int) : Int := if ee e1 e2 ≠ 0 then ee e1 e2 else if b = 0 then 1 else 0
def RetDP (w : World) (er q r : Int) (e : Ending) (w' : World) : Prop := ∃ A n c A' n' c', e = .returned (.tuple #[.slice A n c, .slice A' n' c', .int .i64 er]) ∧ PV w' (.slice A n c) (erz q) q ∧ PV w' (.slice A' n' c') (erz r) r ∧ NV w' (.slice A n c) q ∧ NV w' (.slice A' n' c') r ∧ Below w.heap.size w w'
/-- a root -/
def RetRP (w : World) (er z : Int) (e : Ending) (w' : World) : Prop :=
  ∃ A n c b R, e = .returned (.tuple #[.slice A n c, .bool b, .int .i64 er]) ∧ NV w' (.slice A n c) R ∧ Below w.heap.size w w' ∧ Hid (er = 0 → R * R ≤ z ∧ z < (R + 1) * (R + 1) ∧ 0 ≤ R ∧ b = decide (R * R ≠ z)) ∧ Hid (er ≠ 0 → R = 0 ∧ b = false)
/-- limbs laid down in new memory -/
theorem PV.lit (w : World) (l : List Int) (hl : Lim l) (hn : l.length ≤ 9223372036854775807) : PV (w.alloc (.cells (l.map (Value.int .u32)).toArray 108)) (.slice (some ⟨w.heap.size, 0, none⟩) l.length l.length) (chk l) (lv l) :=
  ⟨l, Row.sl (L := l) (Blk.new w 108 _) _ (Nat.le_refl _), hl, hn, rfl, rfl⟩
end NC
end Go.Proofs.YtejglcpiihkenaaGreatDoor

/-
  Numbers that are a whole number times a power of two: their form, the errors, sums and products; pure.
-/
namespace Go.Proofs.YtejglcpiihkenaaGreatDoor
set_option linter.unusedVariables false
set_option linter.unusedSimpArgs false
open Go.RowKit
set_option linter.unusedVariables false
namespace DC
open L NC
/-- a Dyad's number: its error (of Check), the mantissa with its sign, the exponent -/
structure Dy where
  er : Int
  m : Int
  x : Int
/-- what a call tells: its error, its Dyad -/
structure Re where
  e : Int
  d : Dy
def dz : Dy := ⟨0, 0, 0⟩
/-- the bounds -/
def inb (m x : Int) : Prop := m < 4294967296 ^ 400 ∧ -(4294967296 ^ 400) < m ∧ -10000 ≤ x ∧ x ≤ 10000
instance (m x : Int) : Decidable (inb m x) := by unfold inb; infer_instance
/-- how often a number is twice another one -/
def tw : Nat → Nat → Nat
  | 0, _ => 0
  | f + 1, n => if n % 2 = 1 then 0 else tw f (n / 2) + 1
def tz (m : Int) : Nat := tw m.natAbs m.natAbs
def fin (m x : Int) : Re := if m = 0 then ⟨0, dz⟩ else if inb (m / 2 ^ tz m) (x + tz m) then ⟨0, 0, m / 2 ^ tz m, x + tz m⟩ else ⟨2, dz⟩
/-- the form -/
def can (m x : Int) : Prop := (m = 0 ∧ x = 0) ∨ m % 2 = 1
def Good (d : Dy) : Prop := d.er = 0 → can d.m d.x ∧ inb d.m d.x
theorem two_pos' (n : Nat) : (0 : Int) < 2 ^ n := Int.pow_pos (by decide)
theorem tw_spec : ∀ (f n : Nat), 0 < n → n ≤ f → (n / 2 ^ tw f n) % 2 = 1 ∧ n % 2 ^ tw f n = 0 := by
  intro f
  induction f with
  | zero => intro n h1 h2; omega
  | succ f ih =>
    intro n h1 h2
    unfold tw
    by_cases h : n % 2 = 1
    · rw [if_pos h]; simp [h, Nat.mod_one]
    · rw [if_neg h]
      have h3 := ih (n / 2) (by omega) (by omega)
      rw [Nat.pow_succ, Nat.mul_comm, ← Nat.div_div_eq_div_mul, Nat.mod_mul]
      refine ⟨h3.1, ?_⟩
      rw [h3.2]; omega
theorem tz_spec {m : Int} (h : m ≠ 0) : ∃ o : Int, m = o * 2 ^ tz m ∧ o % 2 = 1 := by
  obtain ⟨h1, h2⟩ := tw_spec m.natAbs m.natAbs (by omega) (Nat.le_refl _)
  have h3 : m.natAbs = (m.natAbs / 2 ^ tz m) * 2 ^ tz m := by
    have := Nat.div_add_mod m.natAbs (2 ^ tz m)
    unfold tz at this ⊢
    rw [h2, Nat.mul_comm] at this
    omega
  have h1' : (m.natAbs / 2 ^ tz m) % 2 = 1 := h1
  generalize m.natAbs / 2 ^ tz m = q at h3 h1'
  have h4 : (m.natAbs : Int) = (q : Int) * 2 ^ tz m := by
    have := congrArg (Nat.cast (R := Int)) h3
    rw [Int.natCast_mul, Int.natCast_pow] at this
    exact this
  by_cases hm : 0 ≤ m
  · exact ⟨q, by rw [← h4]; omega, by omega⟩
  · exact ⟨-q, by rw [Int.neg_mul, ← h4]; omega, by omega⟩
theorem odd_unique {o p : Int} {j k : Nat} (h : o * 2 ^ j = p * 2 ^ k) (ho : o % 2 = 1) (hp : p % 2 = 1) : o = p ∧ j = k := by
  have key : ∀ (o p : Int) (j k : Nat), j ≤ k → o * 2 ^ j = p * 2 ^ k → o % 2 = 1 → o = p ∧ j = k := by
    intro o p j k hjk h ho
    obtain ⟨d, rfl⟩ : ∃ d, k = j + d := ⟨k - j, by omega⟩
    rw [Int.pow_add, Int.mul_comm (2 ^ j), ← Int.mul_assoc] at h
    have h1 := Int.eq_of_mul_eq_mul_right (Int.ne_of_gt (two_pos' j)) h
    rcases Nat.eq_zero_or_pos d with rfl | hd
    · simp at h1; exact ⟨h1, rfl⟩
    · exfalso
      obtain ⟨d', rfl⟩ : ∃ d', d = d' + 1 := ⟨d - 1, by omega⟩
      rw [Int.pow_succ, ← Int.mul_assoc] at h1
      omega
  rcases Nat.le_total j k with hjk | hjk
  · exact key o p j k hjk h ho
  · have := key p o k j hjk h.symm hp
    exact ⟨this.1.symm, this.2.symm⟩
theorem odd_ne {o : Int} (h : o % 2 = 1) : o ≠ 0 := by omega
theorem tz_of {o : Int} {k : Nat} (ho : o % 2 = 1) : tz (o * 2 ^ k) = k ∧ o * 2 ^ k / 2 ^ k = o ∧ o * 2 ^ k ≠ 0 := by
  have hne : o * 2 ^ k ≠ 0 := Int.mul_ne_zero (odd_ne ho) (Int.ne_of_gt (two_pos' k))
  obtain ⟨p, h1, h2⟩ := tz_spec hne
  have := odd_unique h1 ho h2
  exact ⟨this.2.symm, Int.mul_ediv_cancel _ (Int.ne_of_gt (two_pos' k)), hne⟩
theorem fin_zero (x : Int) : fin 0 x = ⟨0, dz⟩ := by unfold fin; rw [if_pos rfl]
theorem fin_of {m o x : Int} {k : Nat} (h : m = o * 2 ^ k) (ho : o % 2 = 1) : fin m x = if inb o (x + k) then ⟨0, 0, o, x + k⟩ else ⟨2, dz⟩ := by
  subst h
  have := tz_of (k := k) ho
  unfold fin
  rw [if_neg this.2.2, this.1, this.2.1]
theorem fin_shift (m x : Int) (k : Nat) : fin (m * 2 ^ k) x = fin m (x + k) := by
  by_cases h : m = 0
  · subst h; rw [Int.zero_mul, fin_zero, fin_zero]
  · obtain ⟨o, h1, h2⟩ := tz_spec h
    rw [fin_of h1 h2]
    have h3 : m * 2 ^ k = o * 2 ^ (tz m + k) := by rw [Int.pow_add, ← Int.mul_assoc, ← h1]
    rw [fin_of h3 h2]
    have e : x + ((tz m + k : Nat) : Int) = x + k + (tz m : Int) := by omega
    rw [e]
theorem fin_good (m x : Int) : Good (fin m x).d ∧ (fin m x).d.er = 0 ∧ ((fin m x).e ≠ 0 → (fin m x).d = dz) := by
  by_cases h : m = 0
  · subst h; rw [fin_zero]; exact ⟨fun _ => ⟨.inl ⟨rfl, rfl⟩, by decide +kernel⟩, rfl, fun h => rfl⟩
  · obtain ⟨o, h1, h2⟩ := tz_spec h
    rw [fin_of h1 h2]
    by_cases hi : inb o (x + tz m)
    · rw [if_pos hi]; exact ⟨fun _ => ⟨.inr h2, hi⟩, rfl, fun h => absurd rfl h⟩
    · rw [if_neg hi]; exact ⟨fun _ => ⟨.inl ⟨rfl, rfl⟩, by decide +kernel⟩, rfl, fun h => rfl⟩
theorem fin_self {d : Dy} (h0 : d.er = 0) (h : Good d) : fin d.m d.x = ⟨0, d⟩ := by
  obtain ⟨er, m, x⟩ := d
  obtain ⟨h1, h2⟩ := h h0
  simp only at h0 h1 h2 ⊢
  subst h0
  rcases h1 with ⟨rfl, rfl⟩ | h1
  · exact fin_zero 0
  · rw [fin_of (m := m) (k := 0) (by simp) h1, if_pos (by simpa using h2)]; simp
/-- the value, in very small units -/
def sc (m x : Int) : Int := m * 2 ^ (x + 60000).toNat
theorem sc_shift (m x : Int) (k : Nat) (hx : -60000 ≤ x) : sc (m * 2 ^ k) x = sc m (x + k) := by
  unfold sc
  rw [Int.mul_assoc, ← Int.pow_add]
  congr 2; omega
theorem fin_sc {m x : Int} (hx : -60000 ≤ x) (h : (fin m x).e = 0) : sc (fin m x).d.m (fin m x).d.x = sc m x := by
  by_cases h0 : m = 0
  · subst h0; rw [fin_zero]; show 0 * _ = 0 * _; rw [Int.zero_mul, Int.zero_mul]
  · obtain ⟨o, h1, h2⟩ := tz_spec h0
    rw [fin_of h1 h2] at h ⊢
    by_cases hi : inb o (x + tz m)
    · rw [if_pos hi]
      have := sc_shift o x (tz m) hx
      rw [← h1] at this
      exact this.symm
    · rw [if_neg hi] at h; cases h
theorem sc_zero {m x : Int} : sc m x = 0 ↔ m = 0 := by
  unfold sc
  constructor
  · intro h; rcases Int.mul_eq_zero.1 h with h | h
    · exact h
    · exact absurd h (Int.ne_of_gt (two_pos' _))
  · rintro rfl; simp
theorem sc_inj {m x m' x' : Int} (h : sc m x = sc m' x') (c : can m x) (c' : can m' x') (hx : -60000 ≤ x) (hx' : -60000 ≤ x') : m = m' ∧ x = x' := by
  rcases c with ⟨rfl, rfl⟩ | c
  · rw [sc_zero.2 rfl] at h
    rcases c' with ⟨rfl, rfl⟩ | c'
    · exact ⟨rfl, rfl⟩
    · exact absurd (sc_zero.1 h.symm) (odd_ne c')
  · rcases c' with ⟨rfl, rfl⟩ | c'
    · rw [sc_zero.2 rfl] at h
      exact absurd (sc_zero.1 h) (odd_ne c)
    · have := odd_unique h c c'
      exact ⟨this.1, by omega⟩
theorem Dy.ext' {c d : Dy} (h1 : c.er = d.er) (h2 : c.m = d.m) (h3 : c.x = d.x) : c = d := by
  cases c; cases d; simp only at h1 h2 h3; subst h1; subst h2; subst h3; rfl
/-- both in units of the lesser exponent -/
def lv2 (a b : Dy) : Int := a.m * 2 ^ (a.x - min a.x b.x).toNat
theorem sc_lv2 (a b : Dy) (h : -60000 ≤ min a.x b.x) : sc (lv2 a b) (min a.x b.x) = sc a.m a.x := by
  unfold lv2
  rw [sc_shift _ _ _ h]
  congr 1; omega
theorem sc_add (m n x : Int) : sc (m + n) x = sc m x + sc n x := by unfold sc; rw [Int.add_mul]
theorem sc_neg (m x : Int) : sc (-m) x = -sc m x := by unfold sc; rw [Int.neg_mul]
theorem sc_mul {m n x y : Int} (hx : -10000 ≤ x) (hy : -10000 ≤ y) {k : Nat} (hk : k = 60000) : sc (m * n) (x + y) * 2 ^ k = sc m x * sc n y := by
  unfold sc
  obtain ⟨i, hi⟩ : ∃ i : Nat, (x + 60000).toNat = i := ⟨_, rfl⟩
  obtain ⟨j, hj⟩ : ∃ j : Nat, (y + 60000).toNat = j := ⟨_, rfl⟩
  rw [hi, hj]
  have e : (x + y + 60000).toNat + k = i + j := by omega
  rw [Int.mul_assoc, ← Int.pow_add, e, Int.pow_add]
  grind
theorem sc_lt {m n x : Int} : sc m x < sc n x ↔ m < n := by
  unfold sc
  have := two_pos' (x + 60000).toNat
  constructor
  · intro h; exact Int.lt_of_mul_lt_mul_right h (Int.le_of_lt this)
  · intro h; exact Int.mul_lt_mul_of_pos_right h this
/-- sums, products, shifts -/
def neg (d : Dy) : Dy := ⟨d.er, -d.m, d.x⟩
def sum (a b : Dy) : Re := fin (lv2 a b + lv2 b a) (min a.x b.x)
def Add (a b : Dy) : Re := if ee a.er b.er ≠ 0 then ⟨ee a.er b.er, dz⟩ else sum a b
def Sub (a b : Dy) : Re := if ee a.er b.er ≠ 0 then ⟨ee a.er b.er, dz⟩ else sum a (neg b)
def Mul (a b : Dy) : Re := if ee a.er b.er ≠ 0 then ⟨ee a.er b.er, dz⟩ else fin (a.m * b.m) (a.x + b.x)
def Shf (a : Dy) (n : Int) : Re := if a.er ≠ 0 then ⟨a.er, dz⟩ else if n < -20000 ∨ 20000 < n then ⟨1, dz⟩ else fin a.m (a.x + n)
def Cmpe (a b : Dy) : Int := ee a.er b.er
def Cmpn (a b : Dy) : Int := if ee a.er b.er ≠ 0 then 0 else Z.cmpv (lv2 a b) (lv2 b a)
end DC
end Go.Proofs.YtejglcpiihkenaaGreatDoor

