/-
  Texts glued together for a claim: ZPure LPure ZMulP NPure Base Mem Own Row App NMem N1 N2 NBits N3 NCopy N4 N5 NRow N6 NShP N7 N8 NDivP.
-/
import Derived.WalkKit
import Derived.Below
import Derived.Laws.OwnMore
import Derived.Deep.AppendLies
import Derived.Deep.Draws
import Derived.Test.YtpmjeipdldnnbaaDoorProg
import Derived.Laws.Rows
import Derived.Maps.AppendAt
import Derived.OwnWalk
import Derived.Deep.OwnRows
import Derived.Deep.Upon
import Derived.Deep.RegionLawGrows
import Derived.WalkLawsBesides
import Derived.LoopTactic
import Derived.Lib.Hide
import Derived.Outline
import Derived.RegionTactic
import Derived.BigRegion
import Derived.Deep.QuietTactic
import Derived.BigQuiet
import Derived.Lib.EndianBits
import Derived.Laws.CopyOwn
/-
  Plain mathematics: lists of digits by ten thousand, lowest first; their value; noughts at the end.
-/
namespace Go.Proofs.YtpmjeipdldnnbaaDoor.Z
set_option linter.unusedVariables false
set_option linter.unusedSimpArgs false
def val : List Int → Int
  | [] => 0
  | d :: r => d + 10000 * val r
def Dig (L : List Int) : Prop := ∀ d ∈ L, 0 ≤ d ∧ d < 10000
def sg (b : Bool) (x : Int) : Int := if b then -x else x
/-- no nought at the end -/
def Nz (L : List Int) : Prop := ∀ h : L ≠ [], L.getLast h ≠ 0
@[irreducible] def big (n : Nat) : Nat := 10000 ^ n
theorem val_append (a b : List Int) : val (a ++ b) = val a + 10000 ^ a.length * val b := by
  induction a with
  | nil => simp [val]
  | cons d r ih => simp only [List.cons_append, val, ih, List.length_cons, Int.pow_succ]; grind
theorem val_nonneg {L : List Int} (h : Dig L) : 0 ≤ val L := by
  induction L with
  | nil => simp [val]
  | cons d r ih =>
    have h1 := h d (by simp)
    have h2 := ih fun x hx => h x (by simp [hx])
    simp only [val]; omega
theorem Dig.take {L : List Int} (h : Dig L) (n : Nat) : Dig (L.take n) := fun d hd => h d (List.mem_of_mem_take hd)
/-- from place k on there are only noughts -/
def Tz (L : List Int) (k : Nat) : Prop := ∀ d ∈ L.drop k, d = 0
theorem Tz_all (L : List Int) : Tz L L.length := by intro d hd; simp at hd
theorem Tz_pred (L : List Int) (k : Nat) (h0 : 0 < k) (hk : k ≤ L.length) (hz : L.getD (k - 1) 0 = 0) (h : Tz L k) : Tz L (k - 1) := by
  intro d hd
  rw [List.drop_eq_getElem_cons (by omega), show k - 1 + 1 = k by omega] at hd
  rcases List.mem_cons.1 hd with rfl | hd
  · rw [List.getD_eq_getElem?_getD, List.getElem?_eq_getElem (by omega)] at hz; exact hz
  · exact h d hd
theorem val_zero {L : List Int} (h : ∀ d ∈ L, d = 0) : val L = 0 := by
  induction L with
  | nil => rfl
  | cons d r ih => simp only [val]; rw [h d (by simp), ih fun x hx => h x (by simp [hx])]; rfl
theorem val_take {L : List Int} {k : Nat} (h : Tz L k) : val (L.take k) = val L := by
  conv => rhs; rw [← List.take_append_drop k L, val_append, val_zero h]
  simp
theorem val_pos {L : List Int} (h : Dig L) (hn : Nz L) (hne : L ≠ []) : 0 < val L := by
  obtain ⟨r, d, rfl⟩ := List.eq_nil_or_concat L |>.resolve_left hne
  have hd := h d (by simp)
  have hd0 : d ≠ 0 := by have := hn hne; simpa using this
  have hr := val_nonneg (L := r) fun x hx => h x (by simp [hx])
  simp only [List.concat_eq_append]
  rw [val_append]
  have hp : (0 : Int) < 10000 ^ r.length := Int.pow_pos (by decide)
  have hd2 : val [d] = d := by simp [val]
  rw [hd2]
  have : 0 < 10000 ^ r.length * d := Int.mul_pos hp (by omega)
  omega
theorem Nz_take {L : List Int} {k : Nat} (hk : k ≤ L.length) (h : k = 0 ∨ L.getD (k - 1) 0 ≠ 0) : Nz (L.take k) := by
  intro hne
  have hk0 : 0 < k := by rcases Nat.eq_zero_or_pos k with rfl | h; simp at hne; exact h
  have h := h.resolve_left (by omega)
  rw [List.getLast_eq_getElem, List.getElem_take]
  rw [List.getD_eq_getElem?_getD, List.getElem?_eq_getElem (by omega)] at h
  simp only [List.length_take, Nat.min_eq_left hk]
  exact h
theorem sg_lt (neg : Bool) (x : Int) (h : 0 < x) : decide (sg neg x < 0) = neg := by cases neg <;> simp [sg] <;> omega
theorem sg_abs (neg : Bool) (x : Int) (h : 0 ≤ x) : ((sg neg x).natAbs : Int) = x := by cases neg <;> simp [sg] <;> omega
theorem val_lt {L : List Int} (h : Dig L) : val L < 10000 ^ L.length := by
  induction L with
  | nil => simp [val]
  | cons d r ih =>
    have h1 := h d (by simp)
    have h2 := ih fun x hx => h x (by simp [hx])
    simp only [val, List.length_cons, Int.pow_succ]; omega
theorem val_ge {L : List Int} (h : Dig L) (hn : Nz L) (hne : L ≠ []) : 10000 ^ (L.length - 1) ≤ val L := by
  obtain ⟨r, d, rfl⟩ := List.eq_nil_or_concat L |>.resolve_left hne
  have hd := h d (by simp)
  have hd0 : d ≠ 0 := by have := hn hne; simpa using this
  have hr := val_nonneg (L := r) fun x hx => h x (by simp [hx])
  simp only [List.concat_eq_append]
  rw [val_append]
  have hp : (0 : Int) < 10000 ^ r.length := Int.pow_pos (by decide)
  have hd2 : val [d] = d := by simp [val]
  rw [hd2]
  have : (10000 : Int) ^ r.length * 1 ≤ 10000 ^ r.length * d := Int.mul_le_mul_of_nonneg_left (by omega) (by omega)
  simp; omega
theorem pow_mono {a b : Nat} (h : a ≤ b) : (10000 : Int) ^ a ≤ 10000 ^ b := by
  obtain ⟨c, rfl⟩ := Nat.exists_eq_add_of_le h
  rw [Int.pow_add]
  have h1 : (0 : Int) < 10000 ^ a := Int.pow_pos (by decide)
  have h2 : (0 : Int) < 10000 ^ c := Int.pow_pos (by decide)
  have := Int.mul_le_mul_of_nonneg_left (show (1 : Int) ≤ 10000 ^ c by omega) (show (0 : Int) ≤ 10000 ^ a by omega)
  omega
def cmpv (x y : Int) : Int := if x < y then -1 else if y < x then 1 else 0
theorem val_len {L M : List Int} (hL : Dig L) (hM : Dig M) (nM : Nz M) (h : L.length < M.length) : val L < val M := by
  have h1 := val_lt hL
  have h2 := val_ge hM nM (by rintro rfl; simp at h)
  have h3 := pow_mono (show L.length ≤ M.length - 1 by omega)
  omega
theorem cmpv_lt {x y : Int} (h : x < y) : cmpv x y = -1 := by simp [cmpv, h]
theorem cmpv_gt {x y : Int} (h : y < x) : cmpv x y = 1 := by unfold cmpv; rw [if_neg (by omega), if_pos h]
theorem cmpv_eq {x y : Int} (h : x = y) : cmpv x y = 0 := by unfold cmpv; rw [if_neg (by omega), if_neg (by omega)]
theorem cmpv_ge0 {x y : Int} (h : ¬ x < y) : 0 ≤ cmpv x y := by unfold cmpv; rw [if_neg h]; split <;> omega
theorem cmpv_bd (x y : Int) : -1 ≤ cmpv x y ∧ cmpv x y ≤ 1 := by unfold cmpv; split <;> (try split) <;> omega
theorem val_split (L : List Int) (k : Nat) (hk : k < L.length) : val L = val (L.take k) + 10000 ^ k * (L.getD k 0 + 10000 * val (L.drop (k + 1))) := by
  conv => lhs; rw [← List.take_append_drop k L, val_append]
  rw [List.length_take, Nat.min_eq_left (by omega), List.drop_eq_getElem_cons hk]
  simp only [val]
  rw [List.getD_eq_getElem?_getD, List.getElem?_eq_getElem hk]; rfl
/-- alike above place k, less at k -/
theorem val_at_lt {L M : List Int} {k : Nat} (hL : Dig L) (hM : Dig M) (hk : k < L.length) (hk' : k < M.length) (he : L.drop (k + 1) = M.drop (k + 1)) (h : L.getD k 0 < M.getD k 0) : val L < val M := by
  rw [val_split L k hk, val_split M k hk', he]
  have h1 := val_lt (hL.take k)
  have h2 := val_nonneg (hM.take k)
  rw [List.length_take, Nat.min_eq_left (by omega)] at h1
  have hp : (0 : Int) < 10000 ^ k := Int.pow_pos (by decide)
  have h3 := Int.mul_le_mul_of_nonneg_left (show L.getD k 0 + 10000 * val (M.drop (k + 1)) + 1 ≤ M.getD k 0 + 10000 * val (M.drop (k + 1)) by omega) (show (0 : Int) ≤ 10000 ^ k by omega)
  rw [Int.mul_add (10000 ^ k) _ 1] at h3
  omega
theorem drop_same {L M : List Int} {k : Nat} (hk : k < L.length) (hk' : k < M.length) (he : L.drop (k + 1) = M.drop (k + 1)) (h : L.getD k 0 = M.getD k 0) : L.drop k = M.drop k := by
  rw [List.drop_eq_getElem_cons hk, List.drop_eq_getElem_cons hk', he]
  rw [List.getD_eq_getElem?_getD, List.getElem?_eq_getElem hk, List.getD_eq_getElem?_getD, List.getElem?_eq_getElem hk'] at h
  simp at h
  rw [h]
theorem big_pos (n : Nat) : (0 : Int).natAbs < big n := by unfold big; exact Nat.pow_pos (by decide)
theorem big_cast (n : Nat) : ((big n : Nat) : Int) = 10000 ^ n := by unfold big; simp
theorem len_of {L : List Int} {a N : Nat} (h : Dig L) (hn : Nz L) (hv : val L = a) (ha : a < big N) : L.length ≤ N := by
  rcases Nat.lt_or_ge N L.length with hl | hl
  · exfalso
    have h1 := val_ge h hn (by rintro rfl; simp at hl)
    have h2 := pow_mono (show N ≤ L.length - 1 by omega)
    have h3 := big_cast N
    omega
  · exact hl
theorem cmpv_neg (x y : Int) : cmpv (-x) (-y) = - cmpv x y := by unfold cmpv; repeat (first | omega | split)
theorem len0_of {L : List Int} (h : Dig L) (hn : Nz L) (hv : val L = 0) : L = [] := by
  rcases List.eq_nil_or_concat L with h0 | h0
  · exact h0
  · have := val_pos h hn (by obtain ⟨r, d, rfl⟩ := h0; simp); omega
/-- the digits so far of a number, and what is left of it -/
structure NI (n m : Int) (L : List Int) : Prop where
  dig : Dig L
  sum : (n.natAbs : Int) = val L + 10000 ^ L.length * (m.natAbs : Int)
  s0 : 0 ≤ n → 0 ≤ m
  s1 : n < 0 → m ≤ 0
  len : L.length ≤ 5
  lim : (m.natAbs : Int) < 10000 ^ (5 - L.length)
  nz : m = 0 → Nz L
theorem NI.start (n : Int) (h0 : -9223372036854775808 ≤ n) (h1 : n ≤ 9223372036854775807) : NI n n [] := by
  refine ⟨(by intro d hd; cases hd), by simp [val], fun h => h, fun h => by omega, by simp, by simp; omega, fun _ h => absurd rfl h⟩
def dgt (m : Int) : Int := if m.tmod 10000 < 0 then -(m.tmod 10000) else m.tmod 10000
theorem tmod_bd (m : Int) : -10000 < m.tmod 10000 ∧ m.tmod 10000 < 10000 := by
  rcases Int.le_total 0 m with h | h
  · rw [Int.tmod_eq_emod_of_nonneg h]; omega
  · obtain ⟨k, rfl⟩ : ∃ k, m = -k := ⟨-m, by omega⟩
    rw [Int.neg_tmod, Int.tmod_eq_emod_of_nonneg (by omega)]; omega
theorem dgt_eq (m : Int) : dgt m = (m.natAbs : Int) % 10000 := by
  unfold dgt
  rcases Int.le_total 0 m with h | h
  · rw [Int.tmod_eq_emod_of_nonneg h]; split <;> omega
  · obtain ⟨k, rfl⟩ : ∃ k, m = -k := ⟨-m, by omega⟩
    rw [Int.neg_tmod, Int.tmod_eq_emod_of_nonneg (by omega)]; split <;> omega
theorem tdiv_abs (m : Int) : ((m.tdiv 10000).natAbs : Int) = (m.natAbs : Int) / 10000 := by
  rcases Int.le_total 0 m with h | h
  · rw [Int.tdiv_eq_ediv_of_nonneg h]; omega
  · obtain ⟨k, rfl⟩ : ∃ k, m = -k := ⟨-m, by omega⟩
    rw [Int.neg_tdiv, Int.tdiv_eq_ediv_of_nonneg (by omega)]; omega
theorem tdiv_sign (m : Int) : (0 ≤ m → 0 ≤ m.tdiv 10000) ∧ (m ≤ 0 → m.tdiv 10000 ≤ 0) := by
  constructor
  · intro h; rw [Int.tdiv_eq_ediv_of_nonneg h]; omega
  · intro h
    obtain ⟨k, rfl⟩ : ∃ k, m = -k := ⟨-m, by omega⟩
    rw [Int.neg_tdiv, Int.tdiv_eq_ediv_of_nonneg (by omega)]; omega
theorem NI.step {n m : Int} {L : List Int} (h : NI n m L) (hm : m ≠ 0) : NI n (m.tdiv 10000) (L ++ [dgt m]) := by
  have hd := dgt_eq m
  have ht := tdiv_abs m
  have hs := tdiv_sign m
  have hl : L.length < 5 := by
    rcases Nat.lt_or_ge L.length 5 with h5 | h5
    · exact h5
    · have := h.lim; rw [show 5 - L.length = 0 by omega] at this; simp at this; omega
  refine ⟨?_, ?_, fun hn => hs.1 (h.s0 hn), fun hn => hs.2 (h.s1 hn), by simp; omega, ?_, ?_⟩
  · intro d hd'
    rcases List.mem_append.1 hd' with hd' | hd'
    · exact h.dig d hd'
    · simp at hd'; subst hd'; omega
  · rw [h.sum, val_append, ht, hd]
    simp only [List.length_append, List.length_cons, List.length_nil, val, Int.pow_succ, Int.mul_zero, Int.add_zero]
    have : (m.natAbs : Int) = (m.natAbs : Int) % 10000 + 10000 * ((m.natAbs : Int) / 10000) := by omega
    generalize (m.natAbs : Int) % 10000 = a at *
    generalize (m.natAbs : Int) / 10000 = b at *
    rw [this]; grind
  · have h1 := h.lim
    rw [show 5 - L.length = (5 - (L ++ [dgt m]).length) + 1 by simp; omega, Int.pow_succ] at h1
    rw [ht]; omega
  · intro h0 hne
    have h2 : (m.natAbs : Int) / 10000 = 0 := by rw [← ht, h0]; rfl
    simp
    rw [hd]; omega
theorem NI.bd {n m : Int} {L : List Int} (h : NI n m L) (h0 : -9223372036854775808 ≤ n) (h1 : n ≤ 9223372036854775807) : -9223372036854775808 ≤ m ∧ m ≤ 9223372036854775807 := by
  have a := h.sum
  have b := h.s0
  have c := h.s1
  have d := val_nonneg h.dig
  have e : (m.natAbs : Int) ≤ 10000 ^ L.length * (m.natAbs : Int) := by
    have hp : (0 : Int) < 10000 ^ L.length := Int.pow_pos (by decide)
    have := Int.mul_le_mul_of_nonneg_right (show (1 : Int) ≤ 10000 ^ L.length by omega) (show (0 : Int) ≤ (m.natAbs : Int) by omega)
    omega
  omega
theorem NI.done {n : Int} {L : List Int} (h : NI n 0 L) : Dig L ∧ Nz L ∧ val L = n.natAbs := ⟨h.dig, h.nz rfl, by have := h.sum; simp at this; omega⟩
theorem getD_dig {L : List Int} (h : Dig L) (k : Nat) : 0 ≤ L.getD k 0 ∧ L.getD k 0 < 10000 := by
  rw [List.getD_eq_getElem?_getD]
  rcases Nat.lt_or_ge k L.length with hk | hk
  · rw [List.getElem?_eq_getElem hk]; exact h _ (List.getElem_mem hk)
  · rw [List.getElem?_eq_none hk]; simp
theorem getD_out {L : List Int} {k : Nat} (h : L.length ≤ k) : L.getD k 0 = 0 := by rw [List.getD_eq_getElem?_getD, List.getElem?_eq_none h]; rfl
theorem val_take_succ (L : List Int) (k : Nat) : val (L.take (k + 1)) = val (L.take k) + 10000 ^ k * L.getD k 0 := by
  rcases Nat.lt_or_ge k L.length with hk | hk
  · rw [List.take_succ_eq_append_getElem hk, val_append, List.length_take, Nat.min_eq_left (by omega), List.getD_eq_getElem?_getD, List.getElem?_eq_getElem hk]
    simp [val]
  · rw [getD_out hk, List.take_of_length_le hk, List.take_of_length_le (by omega)]; simp
/-- adding (or taking away) digit by digit: after k rounds -/
structure AddI (s : Bool) (X Y : List Int) (k : Nat) (c : Int) (L : List Int) : Prop where
  dig : Dig L
  len : L.length = k
  sum : val L + 10000 ^ k * c = val (X.take k) + (if s then val (Y.take k) else - val (Y.take k))
  c0 : -1 ≤ c
  c1 : c ≤ 1
  cs : s = true → 0 ≤ c
  cd : s = false → c ≤ 0
theorem AddI.start (s : Bool) (X Y : List Int) : AddI s X Y 0 0 [] := ⟨(by intro d hd; cases hd), rfl, by cases s <;> simp [val], by omega, by omega, fun _ => by omega, fun _ => by omega⟩
theorem AddI.step {s : Bool} {X Y : List Int} {k : Nat} {c : Int} {L : List Int} (h : AddI s X Y k c L) (d c' : Int) (h0 : 0 ≤ d) (h1 : d < 10000) (g0 : -1 ≤ c') (g1 : c' ≤ 1)
    (gs : s = true → 0 ≤ c') (gd : s = false → c' ≤ 0) (he : d + 10000 * c' = c + X.getD k 0 + (if s then Y.getD k 0 else - Y.getD k 0)) : AddI s X Y (k + 1) c' (L ++ [d]) := by
  refine ⟨?_, by simp [h.len], ?_, g0, g1, gs, gd⟩
  · intro x hx
    rcases List.mem_append.1 hx with hx | hx
    · exact h.dig x hx
    · simp at hx; subst hx; omega
  · rw [val_append, val_take_succ, val_take_succ, h.len]
    have h3 := h.sum
    simp only [val, Int.mul_zero, Int.add_zero, Int.pow_succ]
    generalize (10000 : Int) ^ k = p at *
    generalize X.getD k 0 = x at *
    generalize Y.getD k 0 = y at *
    have : p * (d + 10000 * c') = p * (c + x + (if s then y else -y)) := by rw [he]
    cases s <;> simp at * <;> grind
theorem AddI.done {s : Bool} {X Y : List Int} {k : Nat} {c : Int} {L : List Int} (h : AddI s X Y k c L) (hx : X.length ≤ k) (hy : Y.length ≤ k) (hc : c ≤ 0) (hge : s = false → val Y ≤ val X) :
    val L = val X + (if s then val Y else - val Y) := by
  have h1 := h.sum
  rw [List.take_of_length_le hx, List.take_of_length_le hy] at h1
  have h2 := val_lt h.dig
  rw [h.len] at h2
  have h3 := val_nonneg h.dig
  have hp : (0 : Int) < 10000 ^ k := Int.pow_pos (by decide)
  have h4 : c = 0 := by
    cases s
    · have := hge rfl
      have h5 := h.c0
      by_cases h6 : c = -1
      · subst h6; simp at h1; omega
      · omega
    · have := h.cs rfl; omega
  subst h4
  simpa using h1
def mu (M : Nat) (k c : Int) : Nat := 2 * (M + 1 - k.toNat) + (if 0 < c then 1 else 0)
theorem mu_lt {M k : Nat} {c c' : Int} (hk : k ≤ M) : mu M ((k : Int) + 1) c' < mu M (k : Int) c := by
  unfold mu
  rw [show ((k : Int) + 1).toNat = k + 1 by omega, show (k : Int).toNat = k by omega]
  split <;> split <;> omega
end Go.Proofs.YtpmjeipdldnnbaaDoor.Z

/-
  Plain mathematics: lists of limbs of 32 bits, lowest first; their value.
-/
namespace Go.Proofs.YtpmjeipdldnnbaaDoor.L
set_option linter.unusedVariables false
set_option linter.unusedSimpArgs false
open Z (Nz)
def lv : List Int → Int
  | [] => 0
  | d :: r => d + 4294967296 * lv r
def Lim (L : List Int) : Prop := ∀ d ∈ L, 0 ≤ d ∧ d < 4294967296
theorem lv_append (a b : List Int) : lv (a ++ b) = lv a + 4294967296 ^ a.length * lv b := by
  induction a with
  | nil => simp [lv]
  | cons d r ih => simp only [List.cons_append, lv, ih, List.length_cons, Int.pow_succ]; grind
theorem lv_nonneg {L : List Int} (h : Lim L) : 0 ≤ lv L := by
  induction L with
  | nil => simp [lv]
  | cons d r ih =>
    have h1 := h d (by simp)
    have h2 := ih fun x hx => h x (by simp [hx])
    simp only [lv]; omega
theorem Lim.take {L : List Int} (h : Lim L) (n : Nat) : Lim (L.take n) := fun d hd => h d (List.mem_of_mem_take hd)
theorem Lim.drop {L : List Int} (h : Lim L) (n : Nat) : Lim (L.drop n) := fun d hd => h d (List.mem_of_mem_drop hd)
theorem Lim.nil : Lim [] := by intro d h; cases h
theorem Lim.app {L M : List Int} (h : Lim L) (h' : Lim M) : Lim (L ++ M) := by
  intro d hd
  rcases List.mem_append.1 hd with hd | hd
  · exact h d hd
  · exact h' d hd
theorem lv_lt {L : List Int} (h : Lim L) : lv L < 4294967296 ^ L.length := by
  induction L with
  | nil => simp [lv]
  | cons d r ih =>
    have h1 := h d (by simp)
    have h2 := ih fun x hx => h x (by simp [hx])
    simp only [lv, List.length_cons, Int.pow_succ]; omega
theorem pow_pos (n : Nat) : (0 : Int) < 4294967296 ^ n := Int.pow_pos (by decide)
theorem pow_mono {a b : Nat} (h : a ≤ b) : (4294967296 : Int) ^ a ≤ 4294967296 ^ b := by
  obtain ⟨c, rfl⟩ := Nat.exists_eq_add_of_le h
  rw [Int.pow_add]
  have h1 := pow_pos a
  have h2 := pow_pos c
  have := Int.mul_le_mul_of_nonneg_left (show (1 : Int) ≤ 4294967296 ^ c by omega) (show (0 : Int) ≤ 4294967296 ^ a by omega)
  omega
theorem pow_two (h : Nat) : (4294967296 : Int) ^ h = 2 ^ (32 * h) := by rw [show (4294967296 : Int) = 2 ^ 32 by decide, ← Int.pow_mul]
theorem lv_ge {L : List Int} (h : Lim L) (hn : Nz L) (hne : L ≠ []) : 4294967296 ^ (L.length - 1) ≤ lv L := by
  obtain ⟨r, d, rfl⟩ := List.eq_nil_or_concat L |>.resolve_left hne
  have hd := h d (by simp)
  have hd0 : d ≠ 0 := by have := hn hne; simpa using this
  have hr := lv_nonneg (L := r) fun x hx => h x (by simp [hx])
  simp only [List.concat_eq_append]
  rw [lv_append]
  have hd2 : lv [d] = d := by simp [lv]
  rw [hd2]
  have : (4294967296 : Int) ^ r.length * 1 ≤ 4294967296 ^ r.length * d := Int.mul_le_mul_of_nonneg_left (by omega) (by have := pow_pos r.length; omega)
  simp; omega
theorem lv_cut (L : List Int) (k : Nat) (hk : k ≤ L.length) : lv L = lv (L.take k) + 4294967296 ^ k * lv (L.drop k) := by
  conv => lhs; rw [← List.take_append_drop k L, lv_append]
  rw [List.length_take, Nat.min_eq_left hk]
theorem lv_len {L M : List Int} (hL : Lim L) (hM : Lim M) (nM : Nz M) (h : L.length < M.length) : lv L < lv M := by
  have h1 := lv_lt hL
  have h2 := lv_ge hM nM (by rintro rfl; simp at h)
  have h3 := pow_mono (show L.length ≤ M.length - 1 by omega)
  omega
theorem lv_same_len {L M : List Int} (hL : Lim L) (hM : Lim M) (hl : L.length = M.length) (h : lv L = lv M) : L = M := by
  induction L generalizing M with
  | nil => simp at hl; exact (List.eq_nil_of_length_eq_zero hl.symm).symm
  | cons d r ih =>
    cases M with
    | nil => simp at hl
    | cons d' r' =>
      simp only [lv] at h
      have h1 := hL d (by simp)
      have h2 := hM d' (by simp)
      have e : d = d' := by omega
      have e2 : lv r = lv r' := by omega
      rw [e, ih (fun x hx => hL x (by simp [hx])) (fun x hx => hM x (by simp [hx])) (by simpa using hl) e2]
theorem lv_inj {L M : List Int} (hL : Lim L) (hM : Lim M) (nL : Nz L) (nM : Nz M) (h : lv L = lv M) : L = M := by
  rcases Nat.lt_trichotomy L.length M.length with hl | hl | hl
  · have := lv_len hL hM nM hl; omega
  · exact lv_same_len hL hM hl h
  · have := lv_len hM hL nL hl; omega
theorem lv_bigN {L : List Int} (h : Lim L) (N : Nat) (hl : 3 * L.length ≤ N) : (lv L).natAbs < Z.big N := by
  have h1 := lv_lt h
  have h2 := lv_nonneg h
  have h3 := Z.pow_mono hl
  have h4 : (4294967296 : Int) ^ L.length ≤ 10000 ^ (3 * L.length) := by
    rw [Int.pow_mul]
    have : (4294967296 ^ L.length : Nat) ≤ (10000 ^ 3) ^ L.length := Nat.pow_le_pow_left (by decide) _
    have h := Int.ofNat_le.2 this
    rw [Int.natCast_pow, Int.natCast_pow] at h
    exact h
  have h5 := Z.big_cast N
  omega
theorem lv_big {L : List Int} (h : Lim L) (hl : L.length ≤ 30000) : (lv L).natAbs < Z.big 1000000 := lv_bigN h _ (by omega)
end Go.Proofs.YtpmjeipdldnnbaaDoor.L

/-
  Plain mathematics of the product by rows of digits, and of the carry.
-/
namespace Go.Proofs.YtpmjeipdldnnbaaDoor.Z
set_option linter.unusedVariables false
set_option linter.unusedSimpArgs false
theorem getD_set {L : List Int} {k : Nat} (h : k < L.length) (j : Nat) (z : Int) : (L.set k z).getD j 0 = if j = k then z else L.getD j 0 := by
  simp only [List.getD_eq_getElem?_getD, List.getElem?_set]
  by_cases e : k = j
  · subst e; simp [h]
  · simp [e, Ne.symm e]
theorem val_set (L : List Int) (k : Nat) (z : Int) (h : k < L.length) : val (L.set k z) = val L + 10000 ^ k * (z - L.getD k 0) := by
  induction L generalizing k with
  | nil => simp at h
  | cons d r ih =>
    cases k with
    | zero => simp [val]; omega
    | succ k =>
      have := ih k (by simpa using h)
      simp only [List.set_cons_succ, val, this, List.getD_cons_succ, Int.pow_succ]
      grind
theorem val_rep (n : Nat) : val (List.replicate n 0) = 0 := by
  induction n with
  | zero => rfl
  | succ n ih => simp [List.replicate_succ, val, ih]
theorem getD_rep (n k : Nat) : (List.replicate n (0 : Int)).getD k 0 = 0 := by
  simp [List.getD_eq_getElem?_getD, List.getElem?_replicate]; split <;> rfl
theorem val_ge_at {L : List Int} (h : ∀ k, 0 ≤ L.getD k 0) (k : Nat) : 10000 ^ k * L.getD k 0 ≤ val L := by
  induction L generalizing k with
  | nil => simp [val]
  | cons d r ih =>
    have h0 := h 0
    have hr : ∀ k, 0 ≤ r.getD k 0 := fun k => by simpa using h (k + 1)
    simp at h0
    cases k with
    | zero =>
      have := ih hr 0
      have h1 := hr 0
      simp at this h1
      simp [val]; omega
    | succ k =>
      have := ih hr k
      simp only [val, List.getD_cons_succ, Int.pow_succ]
      have e : (10000 : Int) ^ k * 10000 * r.getD k 0 = 10000 * (10000 ^ k * r.getD k 0) := by grind
      omega
/-- after i rows, and j places of the next one -/
structure MulI (X Y : List Int) (N i j : Nat) (x : Int) (L : List Int) : Prop where
  len : L.length = N
  lo : ∀ k, 0 ≤ L.getD k 0
  hi : ∀ k, L.getD k 0 ≤ ((i : Int) + 1) * 100000000
  hj : ∀ k, i + j ≤ k → L.getD k 0 ≤ (i : Int) * 100000000
  sum : val L = val (X.take i) * val Y + 10000 ^ i * x * val (Y.take j)
theorem MulI.start (X Y : List Int) (N : Nat) : MulI X Y N 0 0 (X.getD 0 0) (List.replicate N 0) :=
  ⟨by simp, fun k => by rw [getD_rep]; omega, fun k => by rw [getD_rep]; omega, fun k _ => by rw [getD_rep]; omega, by simp [val_rep, val]⟩
theorem MulI.step {X Y : List Int} {N i j : Nat} {x y : Int} {L : List Int} (h : MulI X Y N i j x L) (hx : 0 ≤ x ∧ x < 10000) (hy : 0 ≤ y ∧ y < 10000) (ey : Y.getD j 0 = y) (hN : i + j < N) :
    MulI X Y N i (j + 1) x (L.set (i + j) (L.getD (i + j) 0 + x * y)) := by
  have hl : i + j < L.length := by rw [h.len]; exact hN
  have hxy : 0 ≤ x * y := Int.mul_nonneg hx.1 hy.1
  have hxy2 : x * y ≤ 9999 * 9999 := Int.mul_le_mul (by omega) (by omega) hy.1 (by omega)
  have hb := h.hj (i + j) (Nat.le_refl _)
  refine ⟨by simp [h.len], ?_, ?_, ?_, ?_⟩
  · intro k; rw [getD_set hl]; split
    · have := h.lo (i + j); omega
    · exact h.lo k
  · intro k; rw [getD_set hl]; split
    · omega
    · exact h.hi k
  · intro k hk; rw [getD_set hl, if_neg (by omega)]; exact h.hj k (by omega)
  · rw [val_set _ _ _ hl, h.sum, val_take_succ, ey, Int.pow_add]; grind
theorem MulI.next {X Y : List Int} {N i j : Nat} {x : Int} {L : List Int} (h : MulI X Y N i j x L) (ex : X.getD i 0 = x) (hj : Y.length ≤ j) (x' : Int) : MulI X Y N (i + 1) 0 x' L := by
  refine ⟨h.len, h.lo, fun k => ?_, fun k _ => ?_, ?_⟩
  · have := h.hi k; omega
  · have := h.hi k; omega
  · rw [h.sum, val_take_succ, ex, List.take_of_length_le hj]; simp [val]; grind
/-- the carry so far -/
structure CarI (P : Int) (N k : Nat) (L : List Int) : Prop where
  len : L.length = N
  sum : val L = P
  lo : ∀ j, 0 ≤ L.getD j 0
  done : ∀ j, j < k → L.getD j 0 < 10000
  hi : ∀ j, L.getD j 0 ≤ 200000000000000
  rest : ∀ j, k < j → L.getD j 0 ≤ 100000200000000
theorem MulI.carry {X Y : List Int} {N i : Nat} {x : Int} {L : List Int} (h : MulI X Y N i 0 x L) (hi : X.length ≤ i) (hb : i ≤ 1000000) : CarI (val X * val Y) N 0 L := by
  refine ⟨h.len, ?_, h.lo, by omega, fun j => ?_, fun j _ => ?_⟩
  · rw [h.sum, List.take_of_length_le hi]; simp [val]
  · have := h.hi j; omega
  · have := h.hi j; omega
theorem CarI.last {P : Int} {N k : Nat} {L : List Int} (h : CarI P N k L) (hk : k < N) (hP : P < 10000 ^ (N - 1)) (hb : 10000 ≤ L.getD k 0) : k + 1 < N := by
  rcases Nat.lt_or_ge (k + 1) N with h1 | h1
  · exact h1
  · exfalso
    have h2 := val_ge_at h.lo k
    rw [h.sum] at h2
    obtain rfl : k = N - 1 := by omega
    have hp : (0 : Int) < 10000 ^ (N - 1) := Int.pow_pos (by decide)
    have := Int.mul_le_mul_of_nonneg_left hb (show (0 : Int) ≤ 10000 ^ (N - 1) by omega)
    omega
theorem CarI.small {P : Int} {N k : Nat} {L : List Int} (h : CarI P N k L) (hb : L.getD k 0 < 10000) : CarI P N (k + 1) L :=
  ⟨h.len, h.sum, h.lo, fun j hj => by by_cases e : j = k; (subst e; exact hb); exact h.done j (by omega), h.hi, fun j hj => h.rest j (by omega)⟩
theorem CarI.step {P : Int} {N k : Nat} {L : List Int} (h : CarI P N k L) (hk : k + 1 < N) :
    CarI P N (k + 1) ((L.set (k + 1) (L.getD (k + 1) 0 + L.getD k 0 / 10000)).set k (L.getD k 0 % 10000)) := by
  have h1 : k + 1 < L.length := by rw [h.len]; exact hk
  have h2 : k < (L.set (k + 1) (L.getD (k + 1) 0 + L.getD k 0 / 10000)).length := by simp; omega
  have a0 := h.lo k
  have a1 := h.lo (k + 1)
  have a2 := h.hi k
  have a3 := h.rest (k + 1) (by omega)
  have gd : ∀ j, ((L.set (k + 1) (L.getD (k + 1) 0 + L.getD k 0 / 10000)).set k (L.getD k 0 % 10000)).getD j 0 = if j = k then L.getD k 0 % 10000 else if j = k + 1 then L.getD (k + 1) 0 + L.getD k 0 / 10000 else L.getD j 0 := by
    intro j; rw [getD_set h2, getD_set h1]
  refine ⟨by simp [h.len], ?_, ?_, ?_, ?_, ?_⟩
  · rw [val_set _ _ _ h2, val_set _ _ _ h1, h.sum, getD_set h1, if_neg (by omega), Int.pow_succ]
    have e := Int.mul_ediv_add_emod (L.getD k 0) 10000
    generalize L.getD k 0 / 10000 = q at *
    generalize L.getD k 0 % 10000 = r at *
    grind
  · intro j; rw [gd]; have := h.lo j; split; omega; split <;> omega
  · intro j hj; rw [gd]; have := h.done j; split; omega; split <;> omega
  · intro j; rw [gd]; have := h.hi j; split; omega; split <;> omega
  · intro j hj; rw [gd]; have := h.rest j; split; omega; split <;> omega
theorem CarI.dig {P : Int} {N : Nat} {L : List Int} (h : CarI P N N L) : Dig L := by
  intro d hd
  obtain ⟨j, hj, rfl⟩ := List.getElem_of_mem hd
  have h1 := h.lo j
  have h2 := h.done j (by rw [← h.len]; exact hj)
  rw [List.getD_eq_getElem?_getD, List.getElem?_eq_getElem hj] at h1 h2
  exact ⟨h1, h2⟩
theorem mul_lt_pow {X Y : List Int} {n m : Nat} (hX : Dig X) (hY : Dig Y) (hn : X.length = n) (hm : Y.length = m) : val X * val Y < 10000 ^ (n + m + 1 - 1) := by
  have h1 := val_lt hX
  have h2 := val_lt hY
  rw [hn] at h1
  rw [hm] at h2
  have h3 := val_nonneg hX
  have h4 := val_nonneg hY
  rw [Nat.add_sub_cancel, Int.pow_add]
  have hp : (0 : Int) < 10000 ^ m := Int.pow_pos (by decide)
  rcases Int.lt_or_eq_of_le h4 with h5 | h5
  · have a := Int.mul_lt_mul_of_pos_right h1 h5
    have b := Int.mul_le_mul_of_nonneg_left (Int.le_of_lt h2) (show (0 : Int) ≤ 10000 ^ n from Int.le_of_lt (Int.pow_pos (by decide)))
    omega
  · rw [← h5]; simp; exact Int.mul_pos (Int.pow_pos (by decide)) hp
end Go.Proofs.YtpmjeipdldnnbaaDoor.Z

/-
  Plain mathematics: lists of limbs: one limb set, so many limbs, sums, differences, multiples limb by limb.
-/
namespace Go.Proofs.YtpmjeipdldnnbaaDoor.L
set_option linter.unusedVariables false
set_option linter.unusedSimpArgs false
open Z (Nz Tz cmpv)
theorem lv_set (L : List Int) (k : Nat) (z : Int) (h : k < L.length) : lv (L.set k z) = lv L + 4294967296 ^ k * (z - L.getD k 0) := by
  induction L generalizing k with
  | nil => simp at h
  | cons d r ih =>
    cases k with
    | zero => simp [lv]; omega
    | succ k =>
      simp only [List.set_cons_succ, lv, List.getD_cons_succ]
      rw [ih k (by simpa using h), Int.pow_succ]; grind
theorem lv_take_succ (L : List Int) (k : Nat) : lv (L.take (k + 1)) = lv (L.take k) + 4294967296 ^ k * L.getD k 0 := by
  induction L generalizing k with
  | nil => simp [lv]
  | cons d r ih =>
    cases k with
    | zero => simp [lv]
    | succ k =>
      simp only [List.take_succ_cons, lv, List.getD_cons_succ]
      rw [ih k, Int.pow_succ]; grind
theorem lv_rep (n : Nat) : lv (List.replicate n 0) = 0 := by
  induction n with
  | zero => rfl
  | succ n ih => simp [List.replicate_succ, lv, ih]
theorem Lim.set {L : List Int} (h : Lim L) (k : Nat) {z : Int} (h0 : 0 ≤ z) (h1 : z < 4294967296) : Lim (L.set k z) := by
  intro d hd
  rcases List.mem_or_eq_of_mem_set hd with hd | rfl
  · exact h d hd
  · exact ⟨h0, h1⟩
theorem Lim.at_ {L : List Int} (h : Lim L) (k : Nat) : 0 ≤ L.getD k 0 ∧ L.getD k 0 < 4294967296 := by
  rw [List.getD_eq_getElem?_getD]
  by_cases hk : k < L.length
  · rw [List.getElem?_eq_getElem hk]; exact h _ (List.getElem_mem hk)
  · rw [List.getElem?_eq_none (by omega)]; simp
theorem Lim.rep (n : Nat) : Lim (List.replicate n 0) := by
  intro d hd
  obtain rfl := List.eq_of_mem_replicate hd
  omega
theorem lv_zero {L : List Int} (h : ∀ d ∈ L, d = 0) : lv L = 0 := by
  induction L with
  | nil => rfl
  | cons d r ih => simp [lv, h d (by simp), ih fun x hx => h x (by simp [hx])]
theorem lv_tz {L : List Int} {k : Nat} (h : Tz L k) : lv (L.take k) = lv L := by
  have := lv_append (L.take k) (L.drop k)
  rw [List.take_append_drop, lv_zero h] at this
  omega
theorem lv_take_all {L : List Int} {k : Nat} (h : L.length ≤ k) : lv (L.take k) = lv L := by rw [List.take_of_length_le h]
theorem lv_drop {L : List Int} (k : Nat) (hk : k < L.length) : lv (L.drop k) = L.getD k 0 + 4294967296 * lv (L.drop (k + 1)) := by
  rw [List.drop_eq_getElem_cons hk]
  simp only [lv]
  rw [List.getD_eq_getElem?_getD, List.getElem?_eq_getElem hk]; rfl
theorem lv_split (L : List Int) (k : Nat) (hk : k < L.length) : lv L = lv (L.take k) + 4294967296 ^ k * (L.getD k 0 + 4294967296 * lv (L.drop (k + 1))) := by
  rw [lv_cut L k (by omega), lv_drop k hk]
theorem lv_at_lt {L M : List Int} {k : Nat} (hL : Lim L) (hM : Lim M) (hk : k < L.length) (hk' : k < M.length) (he : L.drop (k + 1) = M.drop (k + 1)) (h : L.getD k 0 < M.getD k 0) : lv L < lv M := by
  rw [lv_split L k hk, lv_split M k hk', he]
  have h1 := lv_lt (hL.take k)
  rw [List.length_take, Nat.min_eq_left (by omega)] at h1
  have h2 := lv_nonneg (hM.take k)
  have h3 : (4294967296 : Int) ^ k * (L.getD k 0 + 1) ≤ 4294967296 ^ k * M.getD k 0 := Int.mul_le_mul_of_nonneg_left (by omega) (Int.le_of_lt (pow_pos k))
  grind
theorem drop_same {L M : List Int} {k : Nat} (hk : k < L.length) (hk' : k < M.length) (he : L.drop (k + 1) = M.drop (k + 1)) (h : L.getD k 0 = M.getD k 0) : L.drop k = M.drop k := Z.drop_same hk hk' he h
theorem getD_set {L : List Int} {k : Nat} (h : k < L.length) (j : Nat) (z : Int) : (L.set k z).getD j 0 = if j = k then z else L.getD j 0 := Z.getD_set h j z
theorem lim_end {L : List Int} {k : Nat} (hk : k ≤ L.length) (h : k = 0 ∨ L.getD (k - 1) 0 ≠ 0) : Nz (L.take k) := Z.Nz_take hk h
/-- adding under way: so many limbs of Y have been added to X, which reads M now; c is carried -/
structure AddI (X Y : List Int) (i : Nat) (M : List Int) (c : Int) : Prop where
  len : M.length = X.length
  lim : Lim M
  c0 : 0 ≤ c
  c1 : c ≤ 1
  sum : lv M + 4294967296 ^ i * c = lv X + lv (Y.take i)
theorem AddI.start {X : List Int} (Y : List Int) (h : Lim X) : AddI X Y 0 X 0 := ⟨rfl, h, by omega, by omega, by simp [lv]⟩
theorem AddI.step {X Y M : List Int} {i : Nat} {c z c' : Int} (h : AddI X Y i M c) (hi : i < X.length) (z0 : 0 ≤ z) (z1 : z < 4294967296) (g0 : 0 ≤ c') (g1 : c' ≤ 1)
    (e : z + 4294967296 * c' = M.getD i 0 + Y.getD i 0 + c) : AddI X Y (i + 1) (M.set i z) c' := by
  refine ⟨by simp [h.len], h.lim.set i z0 z1, g0, g1, ?_⟩
  rw [lv_set M i z (by rw [h.len]; exact hi), lv_take_succ, Int.pow_succ]
  have := h.sum
  have e2 : 4294967296 ^ i * (z + 4294967296 * c') = 4294967296 ^ i * (M.getD i 0 + Y.getD i 0 + c) := by rw [e]
  grind
theorem AddI.done {X Y M : List Int} {i : Nat} {c : Int} (h : AddI X Y i M c) (hy : Y.length ≤ i) (hx : i = X.length ∨ c = 0) : lv M + 4294967296 ^ X.length * c = lv X + lv Y := by
  have := h.sum
  rw [lv_take_all hy] at this
  rcases hx with rfl | rfl
  · exact this
  · simpa using this
/-- taking away under way -/
structure SubI (X Y : List Int) (i : Nat) (M : List Int) (c : Int) : Prop where
  len : M.length = X.length
  lim : Lim M
  c0 : 0 ≤ c
  c1 : c ≤ 1
  sum : lv M - 4294967296 ^ i * c = lv X - lv (Y.take i)
theorem SubI.start {X : List Int} (Y : List Int) (h : Lim X) : SubI X Y 0 X 0 := ⟨rfl, h, by omega, by omega, by simp [lv]⟩
theorem SubI.step {X Y M : List Int} {i : Nat} {c z c' : Int} (h : SubI X Y i M c) (hi : i < X.length) (z0 : 0 ≤ z) (z1 : z < 4294967296) (g0 : 0 ≤ c') (g1 : c' ≤ 1)
    (e : z - 4294967296 * c' = M.getD i 0 - Y.getD i 0 - c) : SubI X Y (i + 1) (M.set i z) c' := by
  refine ⟨by simp [h.len], h.lim.set i z0 z1, g0, g1, ?_⟩
  rw [lv_set M i z (by rw [h.len]; exact hi), lv_take_succ, Int.pow_succ]
  have := h.sum
  have e2 : 4294967296 ^ i * (z - 4294967296 * c') = 4294967296 ^ i * (M.getD i 0 - Y.getD i 0 - c) := by rw [e]
  grind
theorem SubI.done {X Y M : List Int} {i : Nat} {c : Int} (h : SubI X Y i M c) (_hX : Lim X) (hy : Y.length ≤ i) (hx : i = X.length ∨ c = 0) (hle : lv Y ≤ lv X) : lv M = lv X - lv Y := by
  have hs := h.sum
  rw [lv_take_all hy] at hs
  rcases hx with rfl | rfl
  · have := lv_lt h.lim
    rw [h.len] at this
    have c0 := h.c0
    have c1 := h.c1
    rcases (by omega : c = 0 ∨ c = 1) with rfl | rfl
    · simpa using hs
    · rw [Int.mul_one] at hs; omega
  · simpa using hs
/-- a multiple added, or taken away, under way -/
structure TimI (s : Int) (X Y : List Int) (n : Int) (i : Nat) (M : List Int) (c : Int) : Prop where
  len : M.length = X.length
  lim : Lim M
  c0 : 0 ≤ c
  c1 : c ≤ 4294967296
  rest : ∀ j, i ≤ j → M.getD j 0 = X.getD j 0
  sum : lv M + s * (4294967296 ^ i * c) = lv X + s * (n * lv (Y.take i))
theorem TimI.start {X : List Int} (s : Int) (Y : List Int) (n : Int) (h : Lim X) : TimI s X Y n 0 X 0 := ⟨rfl, h, by omega, by omega, fun _ _ => rfl, by simp [lv]⟩
theorem TimI.step {s n : Int} {X Y M : List Int} {i : Nat} {c z c' : Int} (h : TimI s X Y n i M c) (hi : i < X.length) (z0 : 0 ≤ z) (z1 : z < 4294967296) (g0 : 0 ≤ c') (g1 : c' ≤ 4294967296)
    (e : z + s * (4294967296 * c') = M.getD i 0 + s * (Y.getD i 0 * n) + s * c) : TimI s X Y n (i + 1) (M.set i z) c' := by
  refine ⟨by simp [h.len], h.lim.set i z0 z1, g0, g1, fun j hj => ?_, ?_⟩
  · rw [getD_set (by rw [h.len]; exact hi), if_neg (by omega)]; exact h.rest j (by omega)
  · rw [lv_set M i z (by rw [h.len]; exact hi), lv_take_succ, Int.pow_succ]
    have := h.sum
    have e2 : 4294967296 ^ i * (z + s * (4294967296 * c')) = 4294967296 ^ i * (M.getD i 0 + s * (Y.getD i 0 * n) + s * c) := by rw [e]
    grind
theorem TimI.done {s n : Int} {X Y M : List Int} {i : Nat} {c : Int} (h : TimI s X Y n i M c) (hy : Y.length ≤ i) : lv M + s * (4294967296 ^ i * c) = lv X + s * (n * lv Y) := by
  have := h.sum
  rwa [lv_take_all hy] at this
end Go.Proofs.YtpmjeipdldnnbaaDoor.L

/-
  Small lemmas that the walks and the shells share: bounds out of well-formed integers, results, and a new world that has at most new blocks.
-/
namespace Go.Proofs.YtpmjeipdldnnbaaDoor
set_option linter.unusedVariables false
set_option linter.unusedSimpArgs false
open Go.RowKit
theorem ret_int {k : IntKind} {a b : Int} (h : a = b) : Ending.returned (.int k a) = .returned (.int k b) := by rw [h]
theorem ret_bool {a b : Bool} (h : a = b) : Ending.returned (.bool a) = .returned (.bool b) := by rw [h]
theorem wfb_u64 {n : Int} (h : (Lit.int .u64 n).wf = true) : 0 ≤ n ∧ n ≤ 18446744073709551615 := by
  simp only [Lit.wf, Bool.and_eq_true, decide_eq_true_eq] at h
  exact h
theorem wfb_i64 {n : Int} (h : (Lit.int .i64 n).wf = true) : -9223372036854775808 ≤ n ∧ n ≤ 9223372036854775807 := by
  simp only [Lit.wf, Bool.and_eq_true, decide_eq_true_eq] at h
  exact h
theorem wfb_u32 {n : Int} (h : (Lit.int .u32 n).wf = true) : 0 ≤ n ∧ n ≤ 4294967295 := by
  simp only [Lit.wf, Bool.and_eq_true, decide_eq_true_eq] at h
  exact h
theorem same_grown {w w' : World} {e : Ending} {v : Value} (h : e = .returned v ∧ w = w') : e = .returned v ∧ Grown w w' := ⟨h.1, h.2 ▸ Grown.refl _⟩
end Go.Proofs.YtpmjeipdldnnbaaDoor

/-
  Words for memory: a slice of one-cell integers that reads as a list, nil let in; it is kept where the world only grows. (The first block is after the kit's page of words to copy.)
-/
namespace Go.Proofs.YtpmjeipdldnnbaaDoor
set_option linter.unusedVariables false
set_option linter.unusedSimpArgs false
open Go.RowKit
set_option linter.unusedVariables false
theorem block_of_add (a : Addr) (n : Nat) : (a.add n).block = a.block := by unfold Addr.add; split <;> rfl
theorem add_of_add (a : Addr) (i j : Nat) : (a.add i).add j = a.add (i + j) := by
  unfold Addr.add
  by_cases hi : i = 0 <;> by_cases hj : j = 0 <;> simp [hi, hj, Nat.add_assoc]

/-- the slice value 's' holds the integers 'L' of kind 'k'; its block lies in the world -/
def Sl (k : IntKind) (w : World) (s : Value) (L : List Int) : Prop :=
  ∃ A c, s = .slice A L.length c ∧ L.length ≤ c ∧ (L = [] ∨ ∃ ad, A = some ad ∧ ad.block < w.heap.size ∧ ∀ (j : Nat) (h : j < L.length), w.cell? (ad.add j) = some (.int k L[j]))
section
variable {k : IntKind} {w w' : World} {s : Value} {L : List Int}
theorem Sl.keep (h : Sl k w s L) (hs : w.heap.size ≤ w'.heap.size) (hk : ∀ p : Addr, p.block < w.heap.size → w'.cell? p = w.cell? p) : Sl k w' s L := by
  obtain ⟨A, c, e, hc, h⟩ := h
  refine ⟨A, c, e, hc, ?_⟩
  rcases h with h | ⟨ad, rfl, hb, hr⟩
  · exact .inl h
  · exact .inr ⟨ad, rfl, by omega, fun j hj => (hk _ (by rw [block_of_add]; exact hb)).trans (hr j hj)⟩
theorem Sl.below (h : Sl k w s L) (hb : Below w.heap.size w w') : Sl k w' s L := h.keep hb.size fun _ hp => hb.cell hp
theorem Sl.drewN (h : Sl k w s L) (n : Nat) : Sl k (w.drewN n) s L := h
theorem Sl.alloc (h : Sl k w s L) (o : Obj) : Sl k (w.alloc o) s L := h.keep (by simp) fun p hp => World.cell?_alloc_lt w o p hp
theorem Sl.nil (k : IntKind) (w : World) (c : Nat) (A : Option Addr) : Sl k w (.slice A 0 c) [] := ⟨A, c, rfl, by simp, .inl rfl⟩
/-- one element's cell -/
theorem Sl.at_ (h : Sl k w s L) (j : Nat) (hj : j < L.length) : ∃ ad c, s = .slice (some ad) L.length c ∧ L.length ≤ c ∧ ad.block < w.heap.size ∧ w.cell? (ad.add j) = some (.int k (L.getD j 0)) := by
  obtain ⟨A, c, e, hc, h⟩ := h
  rcases h with rfl | ⟨ad, rfl, hb, hr⟩
  · simp at hj
  · refine ⟨ad, c, e, hc, hb, ?_⟩
    rw [hr j hj, List.getD_eq_getElem?_getD, List.getElem?_eq_getElem hj]; rfl
/-- the form, for a walk: address, capacity, and each cell -/
theorem Sl.open_ (h : Sl k w s L) : ∃ A c, s = .slice A L.length c ∧ L.length ≤ c ∧ ∀ j, j < L.length → ∃ ad, A = some ad ∧ ad.block < w.heap.size ∧ w.cell? (ad.add j) = some (.int k (L.getD j 0)) := by
  obtain ⟨A, c, e, hc, h⟩ := h
  refine ⟨A, c, e, hc, fun j hj => ?_⟩
  rcases h with rfl | ⟨ad, rfl, hb, hr⟩
  · simp at hj
  · refine ⟨ad, rfl, hb, ?_⟩
    rw [hr j hj, List.getD_eq_getElem?_getD, List.getElem?_eq_getElem hj]; rfl
theorem Sl.take {A : Option Addr} {n c : Nat} (h : Sl k w (.slice A n c) L) (m : Nat) (hm : m ≤ L.length) : Sl k w (.slice A m c) (L.take m) := by
  obtain ⟨A', c', e, hc, h⟩ := h
  injection e with e1 e2 e3
  subst e1 e3
  refine ⟨A, c, by rw [List.length_take, Nat.min_eq_left hm], by rw [List.length_take]; omega, ?_⟩
  rcases h with rfl | ⟨ad, rfl, hb, hr⟩
  · left; simp
  · right
    refine ⟨ad, rfl, hb, fun j hj => ?_⟩
    rw [List.length_take] at hj
    rw [hr j (by omega), List.getElem_take]
/-- a store into a cell that holds no integer of the kind leaves it -/
theorem Sl.setCell (h : Sl k w s L) {p : Addr} {u : Value} (hu : w.cell? p = some u) (hk : ∀ z, u ≠ .int k z) (x : Value) : Sl k (w.setCell p x) s L := by
  obtain ⟨A, c, e, hc, h⟩ := h
  refine ⟨A, c, e, hc, ?_⟩
  rcases h with h | ⟨ad, rfl, hb, hr⟩
  · exact .inl h
  · refine .inr ⟨ad, rfl, by simpa [World.setCell] using hb, fun j hj => ?_⟩
    rw [World.cell?_setCell_other w p (ad.add j) x (fun e => by rw [e, hr j hj] at hu; injection hu with hu; exact hk _ hu.symm)]
    exact hr j hj
end
end Go.Proofs.YtpmjeipdldnnbaaDoor

/-
  Words for memory that a call makes: a block known whole; a slice of one-cell integers of the call's own; one number appended to it; make. (The lemmas on 'Blk' are after the kit's page of words to copy.)
-/
namespace Go.Proofs.YtpmjeipdldnnbaaDoor
set_option linter.unusedVariables false
set_option linter.unusedSimpArgs false
open Go.RowKit
set_option linter.unusedVariables false
def Blk (w : World) (g : Nat) (t : TypeId) (cs : Array Value) : Prop := w.heap[g]? = some (.cells cs t (0, 0))
section
variable {w w' : World} {g : Nat} {t : TypeId} {cs : Array Value}
theorem Blk.lt (h : Blk w g t cs) : g < w.heap.size := by
  rcases Nat.lt_or_ge g w.heap.size with hlt | hge
  · exact hlt
  · unfold Blk at h; rw [Array.getElem?_eq_none hge] at h; cases h
theorem Blk.cell (h : Blk w g t cs) (i : Nat) : w.cell? ⟨g, i, none⟩ = cs[i]? := cell_of_row w g i cs t (0, 0) h
theorem Blk.at_ (h : Blk w g t cs) (i : Nat) {v : Value} (hv : cs[i]? = some v) : w.cell? ⟨g, i, none⟩ = some v := (h.cell i).trans hv
theorem Blk.frozen (h : Blk w g t cs) (i : Nat) : w.frozen? ⟨g, i, none⟩ = false := by
  unfold Blk at h
  simp [World.frozen?, h]
theorem Blk.new (w : World) (t : TypeId) (cs : Array Value) : Blk (w.alloc (.cells cs t)) w.heap.size t cs := heap_alloc_new w _
theorem Blk.drew (h : Blk w g t cs) : Blk w.drew g t cs := h
theorem Blk.drewN (h : Blk w g t cs) (n : Nat) : Blk (w.drewN n) g t cs := h
theorem Blk.alloc (h : Blk w g t cs) (o : Obj) : Blk (w.alloc o) g t cs := (Below.heap_alloc w o g h.lt).trans h
theorem Blk.set_ (h : Blk w g t cs) (i : Nat) (u : Value) : Blk (w.setCell ⟨g, i, none⟩ u) g t (cs.setIfInBounds i u) := by
  unfold Blk at h ⊢
  simp [World.setCell, Array.getElem?_modify, h]
theorem Blk.far (h : Blk w g t cs) {p : Addr} (hp : g ≠ p.block) (u : Value) : Blk (w.setCell p u) g t cs := (Below.heap_setCell w p u g hp).trans h
theorem Blk.below {B : Nat} (h : Blk w g t cs) (hb : Below B w w') (hg : g < B) : Blk w' g t cs := (hb.block g hg).trans h
theorem Blk.grown {row : Option Nat} (h : Blk w g t cs) (hb : w.grownBy w' row) (hg : some g ≠ row) : Blk w' g t cs := (hb.block g h.lt hg).trans h
theorem Blk.ne_ {g' : Nat} {t' : TypeId} {cs' : Array Value} (h : Blk w g t cs) (h' : Blk w g' t' cs') (hne : t ≠ t') : g ≠ g' := by
  rintro rfl
  unfold Blk at h h'
  rw [h] at h'
  injection h' with h'
  injection h' with _ ht
  exact hne ht
theorem own_blk_ne {base : Nat} {e : TypeId} {size n : Nat} {v : Value} {xs : List Value} (h : w.ownsRow base e size v n xs) (hg : Blk w g t cs) (hne : e ≠ t) : some g ≠ v.ownBlock := by
  rcases h.2 with ⟨rfl, _⟩ | ⟨g', cap, cur, rfl, _, hh, _⟩
  · simp [Value.ownBlock]
  · intro he
    have : g' = g := by simpa [Value.ownBlock] using he.symm
    subst this
    exact Blk.ne_ (t := e) hh hg hne rfl
end

/-- a slice type, its element type, and the integers' kind -/
structure Elem (t e : TypeId) (k : IntKind) : Prop where
  ht : Tryd.prog.underlying t = some (.slice e)
  info : ∃ i, Tryd.prog.info? e = some i ∧ i.zero = some (.int k 0) ∧ i.size = 1 ∧ i.bytes ≤ 8
theorem Elem.of {t e : TypeId} {k : IntKind} {b : Nat} (ht : Tryd.prog.underlying t = some (.slice e)) (h : (Tryd.prog.info? e).map (fun i => (i.zero, i.size, i.bytes)) = some (some (.int k 0), 1, b)) (hb : b ≤ 8) : Elem t e k := by
  obtain ⟨i, hi, h0, h1, h2⟩ := info_parts h
  exact ⟨ht, i, hi, h0, h1, by omega⟩
/-- the call's own slice 'v' (its block's number is from 'base' on) holds the integers 'L' -/
def Own (k : IntKind) (e : TypeId) (w : World) (base : Nat) (v : Value) (L : List Int) : Prop := w.ownsRow base e 1 v L.length (L.map (Value.int k))
section
variable {k : IntKind} {e : TypeId} {w w' : World} {base : Nat} {v : Value} {L : List Int}
theorem Own.nil (k : IntKind) (e : TypeId) (w : World) (base : Nat) : Own k e w base (.slice none 0 0) [] := World.ownsRow_nil _ _ _ _
theorem Own.alloc (h : Own k e w base v L) (o : Obj) : Own k e (w.alloc o) base v L := World.ownsRow.alloc h o
theorem Own.drew (h : Own k e w base v L) : Own k e w.drew base v L := h
theorem Own.drewN (h : Own k e w base v L) (n : Nat) : Own k e (w.drewN n) base v L := h
theorem Own.low (h : Own k e w base v L) {a : Addr} (ha : a.block < base) (u : Value) : Own k e (w.setCell a u) base v L := ownsRow_setCell_below h ha u
theorem Own.below {B : Nat} (h : Own k e w base v L) (hb : Below B w w') (hB : ∀ g, v.ownBlock = some g → g < B) : Own k e w' base v L := by
  unfold Own at *
  refine ⟨h.1, ?_⟩
  rcases h.2 with hn | ⟨g, cap, cur, rfl, hg, hgg, rest⟩
  · exact .inl hn
  · exact .inr ⟨g, cap, cur, rfl, hg, (hb.block g (hB g rfl)).trans hgg, rest⟩
theorem Own.below' (h : Own k e w base v L) (hb : Below w.heap.size w w') : Own k e w' base v L := h.below hb fun g hg => (World.ownsRow.lt h g hg).2
theorem Own.lt (h : Own k e w base v L) (g : Nat) (hg : v.ownBlock = some g) : base ≤ g ∧ g < w.heap.size := World.ownsRow.lt h g hg
theorem Own.ne (h : Own k e w base v L) {g : Nat} {t : TypeId} {cs : Array Value} (hg : Blk w g t cs) (hne : e ≠ t) : some g ≠ v.ownBlock := own_blk_ne h hg hne
theorem Own.at_least {A : Option Addr} {n c : Nat} (h : Own k e w base (.slice A n c) L) : n = 0 ∨ ∃ ad, A = some ad ∧ base ≤ ad.block := by
  rcases h.2 with ⟨h, h0⟩ | ⟨g, cap, cur, h, hg, _⟩
  · injection h with h1 h2; exact .inl h2
  · injection h with h1 h2; exact .inr ⟨_, h1, hg⟩
/-- it reads as the list, for whoever takes it -/
theorem Own.sl (h : Own k e w base v L) : Sl k w v L := by
  rcases h.2 with ⟨rfl, h0⟩ | ⟨g, cap, cur, rfl, hg, hgg, hc, hm, hs, ht⟩
  · obtain rfl := List.eq_nil_of_length_eq_zero h0
    exact Sl.nil k w 0 none
  · refine ⟨some ⟨g, 0, none⟩, cap, rfl, hc, .inr ⟨⟨g, 0, none⟩, rfl, (Array.getElem?_eq_some_iff.1 hgg).1, fun j hj => ?_⟩⟩
    exact World.ownsRow.cells h (g := g) rfl j _ (by simp [hj])
theorem Own.form (h : Own k e w base v L) : ∃ A c, v = .slice A L.length c := by
  obtain ⟨A, c, h, _⟩ := h.sl
  exact ⟨A, c, h⟩
end
/-- 'append(s, x)' of one number: x lies in a new block of one cell -/
theorem app1 {t e : TypeId} {k : IntKind} (el : Elem t e k) {w : World} {ops : Array Oper} {rest : List Oper} {o : Oper} {a : Act} {Q : Exit → Act → World → Prop} (hgd : o.guard = none) (s x : Operand)
    (ho : o.op = .call { callee := .builtin .append, args := #[s, x], argTypes := #[t, t] })
    {base : Nat} {v : Value} {L : List Int} (hs : a.eval s = v) (hown : Own k e w base v L) (z : Int) (hx : a.eval x = .slice (some ⟨w.heap.size, 0, none⟩) 1 1)
    (hl : L.length ≤ 1000000000000) (hbase : base ≤ w.heap.size)
    (h : ∀ A n c w', Hid (n = L.length + 1) → Own k e w' base (.slice A n c) (L ++ [z]) → w.grownBy w' v.ownBlock → ((Value.slice A n c).ownBlock = v.ownBlock ∨ (Value.slice A n c).ownBlock = some (w.heap.size + 1)) → wpList Tryd.prog ops Q rest (a.put o.dst (.slice A n c)) w') :
    wpList Tryd.prog ops Q (o :: rest) a (w.alloc (.cells #[.int k z] e)) := by
  obtain ⟨i, hi, h0, h1, h2⟩ := el.info
  refine wpList_append_own_at (w.alloc (.cells #[.int k z] e)) hgd s x t ho base e i (.int k 0) 1 i.bytes el.ht hi h0 h1 rfl rfl (by decide) v L.length (L.map (Value.int k)) hs (hown.alloc _)
    ⟨w.heap.size, 0, none⟩ 1 1 [.int k z] hx rfl (cell_one_new _ _ _) (by intro u hu; simp at hu; subst hu; rfl) (by unfold maxLen; omega) ?_ (by simp; omega) ?_
  · have : (L.length + 1) * i.bytes ≤ (L.length + 1) * 8 := Nat.mul_le_mul_left _ h2
    omega
  · intro v' w' hown' hg _ hat
    have ho : Own k e w' base v' (L ++ [z]) := by unfold Own; simpa using hown'
    obtain ⟨A, c, rfl⟩ := ho.form
    exact h A _ c w' (show _ = _ by simp) ho ((World.grownBy_alloc w _ _).trans hg) (by simpa using hat)
theorem Blk.set2 {w : World} {g : Nat} {t : TypeId} {a0 a1 : Value} (h : Blk w g t #[a0, a1]) (x y : Value) : Blk ((w.setCell ⟨g, 0, none⟩ x).setCell ⟨g, 1, none⟩ y) g t #[x, y] := by
  simpa using (h.set_ 0 x).set_ 1 y
theorem Blk.far2 {w : World} {g g' : Nat} {t : TypeId} {cs : Array Value} (h : Blk w g t cs) (hg : g ≠ g') (x y : Value) : Blk ((w.setCell ⟨g', 0, none⟩ x).setCell ⟨g', 1, none⟩ y) g t cs :=
  (h.far (p := ⟨g', 0, none⟩) hg x).far (p := ⟨g', 1, none⟩) hg y
theorem below_set2 {w W : World} {B g : Nat} (h : Below B w W) (hg : B ≤ g) (x y : Value) : Below B w ((W.setCell ⟨g, 0, none⟩ x).setCell ⟨g, 1, none⟩ y) := (h.setCell hg x).setCell hg y
/-- two boxes of two cells exchanged -/
theorem swap2 {w W : World} {t1 t2 t3 : TypeId} {a0 a1 b0 b1 : Value} {c3 : Array Value} (h : Blk W w.heap.size t1 #[a0, a1] ∧ Blk W (w.heap.size + 1) t2 #[b0, b1] ∧ Blk W (w.heap.size + 2) t3 c3 ∧ W.heap.size = w.heap.size + 3 ∧ Below w.heap.size w W) :
    Blk ((((W.setCell ⟨w.heap.size, 0, none⟩ b0).setCell ⟨w.heap.size, 1, none⟩ b1).setCell ⟨w.heap.size + 1, 0, none⟩ a0).setCell ⟨w.heap.size + 1, 1, none⟩ a1) w.heap.size t1 #[b0, b1] ∧
    Blk ((((W.setCell ⟨w.heap.size, 0, none⟩ b0).setCell ⟨w.heap.size, 1, none⟩ b1).setCell ⟨w.heap.size + 1, 0, none⟩ a0).setCell ⟨w.heap.size + 1, 1, none⟩ a1) (w.heap.size + 1) t2 #[a0, a1] ∧
    Blk ((((W.setCell ⟨w.heap.size, 0, none⟩ b0).setCell ⟨w.heap.size, 1, none⟩ b1).setCell ⟨w.heap.size + 1, 0, none⟩ a0).setCell ⟨w.heap.size + 1, 1, none⟩ a1) (w.heap.size + 2) t3 c3 ∧
    ((((W.setCell ⟨w.heap.size, 0, none⟩ b0).setCell ⟨w.heap.size, 1, none⟩ b1).setCell ⟨w.heap.size + 1, 0, none⟩ a0).setCell ⟨w.heap.size + 1, 1, none⟩ a1).heap.size = w.heap.size + 3 ∧
    Below w.heap.size w ((((W.setCell ⟨w.heap.size, 0, none⟩ b0).setCell ⟨w.heap.size, 1, none⟩ b1).setCell ⟨w.heap.size + 1, 0, none⟩ a0).setCell ⟨w.heap.size + 1, 1, none⟩ a1) := by
  obtain ⟨h1, h2, h3, h4, h5⟩ := h
  exact ⟨(h1.set2 b0 b1).far2 (by omega) _ _, (h2.far2 (by omega) _ _).set2 _ _, (h3.far2 (by omega) _ _).far2 (by omega) _ _, by simp [World.setCell, h4], below_set2 (below_set2 h5 (Nat.le_refl _) _ _) (by omega) _ _⟩
/-- two, three new blocks behind one another -/
theorem new2 (w : World) (t1 t2 : TypeId) (c1 c2 : Array Value) (q : Nat) : Blk (((w.alloc (.cells c1 t1)).alloc (.cells c2 t2)).drewN q) w.heap.size t1 c1 ∧
    Blk (((w.alloc (.cells c1 t1)).alloc (.cells c2 t2)).drewN q) (w.heap.size + 1) t2 c2 ∧ (((w.alloc (.cells c1 t1)).alloc (.cells c2 t2)).drewN q).heap.size = w.heap.size + 2 ∧
    Below w.heap.size w (((w.alloc (.cells c1 t1)).alloc (.cells c2 t2)).drewN q) := by
  refine ⟨((Blk.new _ _ _).alloc _).drewN q, ?_, by simp [World.drewN], ?_⟩
  · have := Blk.new (w.alloc (.cells c1 t1)) t2 c2
    simp only [World.size_alloc] at this
    exact this.drewN q
  · have h := ((Below.refl _ w).alloc (Nat.le_refl _) (.cells c1 t1)).alloc (by simp) (.cells c2 t2)
    exact ⟨h.os, h.tape, h.output, h.size, h.block⟩
theorem new3 (w : World) (t1 t2 t3 : TypeId) (c1 c2 c3 : Array Value) (q : Nat) : Blk ((((w.alloc (.cells c1 t1)).alloc (.cells c2 t2)).alloc (.cells c3 t3)).drewN q) w.heap.size t1 c1 ∧
    Blk ((((w.alloc (.cells c1 t1)).alloc (.cells c2 t2)).alloc (.cells c3 t3)).drewN q) (w.heap.size + 1) t2 c2 ∧
    Blk ((((w.alloc (.cells c1 t1)).alloc (.cells c2 t2)).alloc (.cells c3 t3)).drewN q) (w.heap.size + 2) t3 c3 ∧
    ((((w.alloc (.cells c1 t1)).alloc (.cells c2 t2)).alloc (.cells c3 t3)).drewN q).heap.size = w.heap.size + 3 ∧
    Below w.heap.size w ((((w.alloc (.cells c1 t1)).alloc (.cells c2 t2)).alloc (.cells c3 t3)).drewN q) := by
  obtain ⟨h1, h2, h3, h4⟩ := new2 w t1 t2 c1 c2 0
  refine ⟨(h1.alloc _).drewN q, (h2.alloc _).drewN q, ?_, by simp [World.drewN], ?_⟩
  · have := Blk.new ((w.alloc (.cells c1 t1)).alloc (.cells c2 t2)) t3 c3
    simp only [World.size_alloc] at this
    exact this.drewN q
  · have h := (((Below.refl _ w).alloc (Nat.le_refl _) (.cells c1 t1)).alloc (by simp) (.cells c2 t2)).alloc (by simp; omega) (.cells c3 t3)
    exact ⟨h.os, h.tape, h.output, h.size, h.block⟩
end Go.Proofs.YtpmjeipdldnnbaaDoor

/-
  Words for a block that is a row of integers, known whole: read, written, made.
-/
namespace Go.Proofs.YtpmjeipdldnnbaaDoor
set_option linter.unusedVariables false
set_option linter.unusedSimpArgs false
open Go.RowKit
set_option linter.unusedVariables false
def Row (k : IntKind) (e : TypeId) (w : World) (g : Nat) (L : List Int) : Prop := Blk w g e (L.map (Value.int k)).toArray
section
variable {k : IntKind} {e : TypeId} {w w' : World} {g : Nat} {L : List Int}
theorem Row.at_ (h : Row k e w g L) (j : Nat) (hj : j < L.length) : w.cell? ⟨g, j, none⟩ = some (.int k (L.getD j 0)) := by
  refine Blk.at_ h j ?_
  rw [List.getD_eq_getElem?_getD, List.getElem?_eq_getElem hj]
  simp [hj]
theorem Row.frozen (h : Row k e w g L) (j : Nat) : w.frozen? ⟨g, j, none⟩ = false := Blk.frozen h j
theorem Row.set_ (h : Row k e w g L) (j : Nat) (z : Int) : Row k e (w.setCell ⟨g, j, none⟩ (.int k z)) g (L.set j z) := by
  have := Blk.set_ h j (.int k z)
  unfold Row
  rw [List.map_set]
  simpa using this
theorem Row.far (h : Row k e w g L) {p : Addr} (hp : g ≠ p.block) (u : Value) : Row k e (w.setCell p u) g L := Blk.far h hp u
theorem Row.alloc (h : Row k e w g L) (o : Obj) : Row k e (w.alloc o) g L := Blk.alloc h o
theorem Row.lt (h : Row k e w g L) : g < w.heap.size := Blk.lt h
theorem Row.sl (h : Row k e w g L) (c : Nat) (hc : L.length ≤ c) : Sl k w (.slice (some ⟨g, 0, none⟩) L.length c) L := by
  refine ⟨_, c, rfl, hc, .inr ⟨⟨g, 0, none⟩, rfl, h.lt, fun j hj => ?_⟩⟩
  have := h.at_ j hj
  rw [List.getD_eq_getElem?_getD, List.getElem?_eq_getElem hj] at this
  have e : (⟨g, 0, none⟩ : Addr).add j = ⟨g, j, none⟩ := by unfold Addr.add; split <;> simp_all
  rw [e]; exact this
theorem Row.after {W : World} {B : Nat} (hb : Below B W w') (h : Row k e w g L) (ew : W.heap = w.heap) (hg : g < B) : Row k e w' g L := (hb.block g hg).trans ((congrArg (fun x => x[g]?) ew).trans h)
theorem made_row (k : IntKind) (n : Nat) : madeCells #[.int k 0] n = ((List.replicate n (0 : Int)).map (Value.int k)).toArray := by
  apply Array.ext
  · simp [madeCells]
  · intro i h1 h2
    simp [madeCells, Nat.mod_one]
theorem Row.new (k : IntKind) (e : TypeId) (w : World) (n : Nat) : Row k e (w.alloc (.cells (madeCells #[.int k 0] n) e)) w.heap.size (List.replicate n 0) := by
  unfold Row; rw [← made_row]; exact Blk.new _ _ _
theorem Row.new' (k : IntKind) (e : TypeId) (w : World) (n : Nat) {g : Nat} (hg : w.heap.size = g) : Row k e (w.alloc (.cells (madeCells #[.int k 0] n) e)) g (List.replicate n 0) := hg ▸ Row.new k e w n
theorem Blk.new' (w : World) (t : TypeId) (cs : Array Value) {g : Nat} (hg : w.heap.size = g) : Blk (w.alloc (.cells cs t)) g t cs := hg ▸ Blk.new w t cs
theorem Row.drew (h : Row k e w g L) : Row k e w.drew g L := h
end
end Go.Proofs.YtpmjeipdldnnbaaDoor

/-
  Words for memory: a list appended to a slice that has no room to spare, as one step of a region that draws its order.
-/
namespace Go.Proofs.YtpmjeipdldnnbaaDoor
set_option linter.unusedVariables false
set_option linter.unusedSimpArgs false
open Go.RowKit
set_option linter.unusedVariables false
theorem Sl.len_ {k : IntKind} {w : World} {A : Option Addr} {n c : Nat} {L : List Int} (h : Sl k w (.slice A n c) L) : n = L.length ∧ L.length ≤ c := by
  obtain ⟨A', c', e, hc, _⟩ := h
  injection e with e1 e2 e3
  subst e3
  exact ⟨e2, hc⟩
theorem Sl.news {k : IntKind} {w : World} {ad : Addr} {n c : Nat} {L : List Int} (h : Sl k w (.slice (some ad) n c) L) : ∀ j u, (L.map (Value.int k))[j]? = some u → w.cell? (ad.add j) = some u := by
  intro j u hu
  have hj : j < L.length := by
    rcases Nat.lt_or_ge j L.length with h | h
    · exact h
    · rw [List.getElem?_eq_none (by simpa using h)] at hu; cases hu
  obtain ⟨ad', c', e, _, _, hc⟩ := h.at_ j hj
  injection e with e1 e2 e3
  injection e1 with e1
  subst e1
  rw [hc]
  rw [List.getElem?_map, List.getElem?_eq_getElem hj] at hu
  rw [List.getD_eq_getElem?_getD, List.getElem?_eq_getElem hj]
  simpa using hu
theorem step_app_list {t e : TypeId} {k : IntKind} (el : Elem t e k) {ops : Array Oper} {o : Oper} {a : Act} {w : World} {K : Act → World → Prop} {Q : Exit → Act → World → Prop} {E : Prop}
    (hg : o.guard = none) (s x : Operand) (hop : o.op = Op.call { callee := Callee.builtin Builtin.append, args := #[s, x], argTypes := #[t, t] })
    (ad : Addr) (n c : Nat) (L : List Int) (hs : a.eval s = .slice (some ad) n c) (hS : Sl k w (.slice (some ad) n c) L)
    (Ax : Option Addr) (m cx : Nat) (M : List Int) (hx : a.eval x = .slice Ax m cx) (hM : Sl k w (.slice Ax m cx) M) (hfull : M ≠ [] → c < n + m) (hlen : L.length + M.length ≤ 1000000000000)
    (h : ∀ A' n' c' w', n' = L.length + M.length → Sl k w' (.slice A' n' c') (L ++ M) → Below w.heap.size w w' → (A' = some ad ∨ ∃ g, A' = some ⟨g, 0, none⟩ ∧ w.heap.size ≤ g) → K (a.put o.dst (.slice A' n' c')) w') :
    if Region.wanted o (yielded ops a.tmps) = true then Oper.wp Tryd.prog o a w K Q else E := by
  obtain ⟨i, hi, h0, h1, h2⟩ := el.info
  have hn := hS.len_
  have hm := hM.len_
  by_cases hM0 : M = []
  · subst hM0
    have hw : Region.wanted o (yielded ops a.tmps) = true := by simp [Region.wanted, hg]
    rw [if_pos hw]
    have hm0 : m = 0 := by simpa using hm.1
    subst hm0
    have hsrc : Src Tryd.prog i.size t (.slice Ax 0 cx) 0 [] w := by
      cases Ax with
      | none => exact Src.ofNil w el.ht cx
      | some adx => exact Src.ofSlice w el.ht adx 0 cx [] (by simp) (by intro j u hu; cases hu) (by intro u hu; cases hu)
    have hrun := run_append_nothing (P := Tryd.prog) w t t o.type e i el.ht hi (some ad) n c (by omega) _ hsrc
    unfold Oper.wp
    simp [execOp, hop, resolve, invoke, builtin, hs, hx, hrun, Result.andThen]
    exact h _ _ _ _ (by simpa using hn.1) (by simpa using hS) (Below.refl _ _) (.inl rfl)
  · obtain ⟨adx, rfl⟩ : ∃ adx, Ax = some adx := by
      obtain ⟨ad', c', e, _⟩ := hM.at_ 0 (List.length_pos_iff.2 hM0)
      injection e with e1
      exact ⟨_, e1⟩
    refine step_append_grows hg s x t hop e i (.int k 0) 1 i.bytes el.ht hi h0 h1 rfl rfl (by decide) (some ad) n c (L.map (Value.int k)) hs (fun h => by cases h) (by simp [hn.1]) ?_
      adx m cx (M.map (Value.int k)) hx (by simp [hm.1]) hM.news ?_ (hfull hM0) (by unfold maxLen; omega) ?_ ?_
    · intro b hb
      injection hb with hb
      subst hb
      exact hS.news
    · intro u hu
      obtain ⟨z, _, rfl⟩ := List.mem_map.1 hu
      rfl
    · have : (n + m) * i.bytes ≤ (n + m) * 8 := Nat.mul_le_mul_left _ h2
      omega
    · intro v' w' hown hgr
      have hown' : Own k e w' w.heap.size v' (L ++ M) := by
        unfold Own
        rw [List.map_append, List.length_append, ← hn.1, ← hm.1]
        exact hown
      obtain ⟨A', c', rfl⟩ := hown'.form
      refine h A' _ c' w' (by simp) hown'.sl ?_ ?_
      · exact (Below.refl w.heap.size w).grown hgr (Nat.le_refl _) (fun g hg => by cases hg)
      · rcases hown'.2 with ⟨he, h0⟩ | ⟨g, cap, cur, he, hg', _⟩
        · exfalso
          have := List.length_pos_iff.2 hM0
          have e0 : (L ++ M).length = 0 := h0
          rw [List.length_append] at e0
          omega
        · injection he with h1
          exact .inr ⟨g, h1, hg'⟩
theorem wp_app_list {t e : TypeId} {k : IntKind} (el : Elem t e k) {o : Oper} {a : Act} {w : World} {K : Act → World → Prop} {Q : Exit → Act → World → Prop}
    (hg : o.guard = none) (s x : Operand) (hop : o.op = Op.call { callee := Callee.builtin Builtin.append, args := #[s, x], argTypes := #[t, t] })
    (ad : Addr) (n c : Nat) (L : List Int) (hs : a.eval s = .slice (some ad) n c) (hS : Sl k w (.slice (some ad) n c) L)
    (Ax : Option Addr) (m cx : Nat) (M : List Int) (hx : a.eval x = .slice Ax m cx) (hM : Sl k w (.slice Ax m cx) M) (hfull : M ≠ [] → c < n + m) (hlen : L.length + M.length ≤ 1000000000000)
    (h : ∀ A' n' c' w', n' = L.length + M.length → Sl k w' (.slice A' n' c') (L ++ M) → Below w.heap.size w w' → (A' = some ad ∨ ∃ g, A' = some ⟨g, 0, none⟩ ∧ w.heap.size ≤ g) → K (a.put o.dst (.slice A' n' c')) w') :
    Oper.wp Tryd.prog o a w K Q := by
  have := step_app_list (ops := #[]) (E := True) (Q := Q) el hg s x hop ad n c L hs hS Ax m cx M hx hM hfull hlen h
  rwa [if_pos (by simp [Region.wanted, hg])] at this
end Go.Proofs.YtpmjeipdldnnbaaDoor

/-
  Words for memory: a stretch of a block of the call's own that holds limbs, written in place; a slice of limbs that lies elsewhere; a result in normal form.
-/
namespace Go.Proofs.YtpmjeipdldnnbaaDoor
set_option linter.unusedVariables false
set_option linter.unusedSimpArgs false
open Go.RowKit
set_option linter.unusedVariables false
namespace NC
open L
open Z (Nz Tz cmpv)
def RetQ (w : World) (v : Value) (e : Ending) (w' : World) : Prop := e = .returned v ∧ ∃ n, w' = w.drewN n
/-- the limbs' cells from number o on hold M -/
def Wn (cs : Array Value) (o : Nat) (M : List Int) : Prop := ∀ j, j < M.length → cs[o + j]? = some (.int .u32 (M.getD j 0))
/-- block g, the call's own, was written from o on, n limbs, which read M; nothing else was -/
structure Ed (w w' : World) (g : Nat) (cs : Array Value) (o n : Nat) (M : List Int) : Prop where
  len : M.length = n
  grown : w.grownBy w' (some g)
  blk : ∃ cs', Blk w' g 89 cs' ∧ cs'.size = cs.size ∧ Wn cs' o M ∧ ∀ i, (i < o ∨ o + n ≤ i) → cs'[i]? = cs[i]?
theorem Ed.start {w : World} {g : Nat} {cs : Array Value} {o n : Nat} {M : List Int} (hb : Blk w g 89 cs) (hM : Wn cs o M) (hn : M.length = n) : Ed w w g cs o n M :=
  ⟨hn, World.grownBy.refl _ _, cs, hb, rfl, hM, fun _ _ => rfl⟩
section
variable {w w' : World} {g : Nat} {cs : Array Value} {o n : Nat} {M : List Int}
theorem Ed.cell (h : Ed w w' g cs o n M) (j : Nat) (hj : j < n) : w'.cell? ⟨g, o + j, none⟩ = some (.int .u32 (M.getD j 0)) := by
  obtain ⟨cs', hb, _, hM, _⟩ := h.blk
  exact hb.at_ _ (hM j (by rw [h.len]; exact hj))
theorem Ed.frozen (h : Ed w w' g cs o n M) (j : Nat) : w'.frozen? ⟨g, j, none⟩ = false := by
  obtain ⟨cs', hb, _, hM, _⟩ := h.blk
  exact hb.frozen _
theorem grownBy_set {w w' : World} {g : Nat} (h : w.grownBy w' (some g)) (j : Nat) (u : Value) : w.grownBy (w'.setCell ⟨g, j, none⟩ u) (some g) :=
  ⟨h.os, h.tape, h.output, by simpa [World.setCell] using h.size, fun k hk hne => (Below.heap_setCell _ _ _ _ (by rintro rfl; exact hne rfl)).trans (h.block k hk hne)⟩
theorem Ed.set_ (h : Ed w w' g cs o n M) (j : Nat) (hj : j < n) (z : Int) : Ed w (w'.setCell ⟨g, o + j, none⟩ (.int .u32 z)) g cs o n (M.set j z) := by
  obtain ⟨cs', hb, hs, hM, hf⟩ := h.blk
  refine ⟨by simp [h.len], grownBy_set h.grown _ _, _, hb.set_ (o + j) _, by simp [hs], fun i hi => ?_, fun i hi => ?_⟩
  · rw [List.length_set] at hi
    rw [Array.getElem?_setIfInBounds, getD_set (by rw [h.len]; exact hj)]
    have hz := hM j (by rw [h.len]; exact hj)
    have hin : o + j < cs'.size := by
      rcases Nat.lt_or_ge (o + j) cs'.size with h | h
      · exact h
      · rw [Array.getElem?_eq_none h] at hz; cases hz
    by_cases e : i = j
    · subst e; simp [hin]
    · rw [if_neg (by omega), if_neg e]; exact hM i hi
  · rw [Array.getElem?_setIfInBounds, if_neg (by omega)]; exact hf i hi
theorem Ed.drew (h : Ed w w' g cs o n M) : Ed w w'.drew g cs o n M := by
  obtain ⟨a, b, cs', hb, c⟩ := h
  exact ⟨a, ⟨b.os, b.tape, b.output, b.size, b.block⟩, cs', hb, c⟩
theorem Ed.below {B : Nat} {w0 : World} (h : Ed w w' g cs o n M) (hb : Below B w0 w) (hB : B ≤ g) (hB' : B ≤ w.heap.size) : Below B w0 w' :=
  hb.grown h.grown hB' fun k hk => by injection hk with hk; omega
theorem Ed.size (h : Ed w w' g cs o n M) : w.heap.size ≤ w'.heap.size := h.grown.size
end
/-- the slice 's' holds the integers 'L'; it lies in another block than g -/
def SlA (k : IntKind) (w : World) (s : Value) (L : List Int) (g : Nat) : Prop :=
  ∃ A c, s = .slice A L.length c ∧ L.length ≤ c ∧ (L = [] ∨ ∃ ad, A = some ad ∧ ad.block < w.heap.size ∧ ad.block ≠ g ∧ ∀ (j : Nat) (h : j < L.length), w.cell? (ad.add j) = some (.int k L[j]))
theorem SlA.sl {k : IntKind} {w : World} {s : Value} {L : List Int} {g : Nat} (h : SlA k w s L g) : Sl k w s L := by
  obtain ⟨A, c, e, hc, h⟩ := h
  exact ⟨A, c, e, hc, h.imp id fun ⟨ad, e, h1, _, h2⟩ => ⟨ad, e, h1, h2⟩⟩
theorem SlA.grown {k : IntKind} {w w' : World} {s : Value} {L : List Int} {g : Nat} (h : SlA k w s L g) (hg : w.grownBy w' (some g)) : SlA k w' s L g := by
  obtain ⟨A, c, e, hc, h⟩ := h
  refine ⟨A, c, e, hc, h.imp id fun ⟨ad, e, h1, h2, h3⟩ => ⟨ad, e, Nat.lt_of_lt_of_le h1 hg.size, h2, fun j hj => ?_⟩⟩
  exact hg.cell (h3 j hj) (by rw [block_of_add]; intro e; injection e with e; exact h2 e)
theorem SlA.of {k : IntKind} {w : World} {s : Value} {L : List Int} {g : Nat} (h : Sl k w s L) (hg : ∀ A n c, s = .slice (some A) n c → 0 < n → A.block ≠ g) : SlA k w s L g := by
  obtain ⟨A, c, e, hc, h⟩ := h
  refine ⟨A, c, e, hc, ?_⟩
  by_cases hL : L = []
  · exact .inl hL
  · rcases h with h | ⟨ad, rfl, h1, h2⟩
    · exact absurd h hL
    · exact .inr ⟨ad, rfl, h1, hg _ _ _ e (List.length_pos_iff.2 hL), h2⟩
/-- a slice that lay there before the world grew from B on, with the block g one of the new ones -/
theorem SlA.old {k : IntKind} {w w' : World} {s : Value} {L : List Int} {g : Nat} (h : Sl k w s L) (hb : Below w.heap.size w w') (hg : w.heap.size ≤ g) : SlA k w' s L g := by
  obtain ⟨A, c, e, hc, h⟩ := h
  refine ⟨A, c, e, hc, h.imp id fun ⟨ad, e, h1, h2⟩ => ⟨ad, e, Nat.lt_of_lt_of_le h1 hb.size, by omega, fun j hj => (hb.cell (by rw [block_of_add]; exact h1)).trans (h2 j hj)⟩⟩
theorem SlA.at_ {k : IntKind} {w : World} {s : Value} {L : List Int} {g : Nat} (h : SlA k w s L g) (j : Nat) (hj : j < L.length) : ∃ ad c, s = .slice (some ad) L.length c ∧ L.length ≤ c ∧ w.cell? (ad.add j) = some (.int k (L.getD j 0)) := by
  obtain ⟨ad, c, h1, h2, _, h3⟩ := h.sl.at_ j hj
  exact ⟨ad, c, h1, h2, h3⟩
theorem _root_.Go.Proofs.YtpmjeipdldnnbaaDoor.Sl.form {k : IntKind} {w : World} {s : Value} {L : List Int} (h : Sl k w s L) : ∃ A c, s = .slice A L.length c ∧ L.length ≤ c := by
  obtain ⟨A, c, e, hc, _⟩ := h
  exact ⟨A, c, e, hc⟩
theorem SlA.drew {k : IntKind} {w : World} {s : Value} {L : List Int} {g : Nat} (h : SlA k w s L g) : SlA k w.drew s L g := h
theorem Ed.undrew {w w' : World} {g : Nat} {cs : Array Value} {o n : Nat} {M : List Int} (h : Ed w.drew w' g cs o n M) : Ed w w' g cs o n M :=
  ⟨h.len, ⟨h.grown.os, h.grown.tape, h.grown.output, h.grown.size, h.grown.block⟩, h.blk⟩
theorem grownBy_trans {w w1 w2 : World} {g : Nat} (h1 : w.grownBy w1 (some g)) (h2 : w1.grownBy w2 (some g)) : w.grownBy w2 (some g) :=
  ⟨h2.os.trans h1.os, h2.tape.trans h1.tape, h2.output.trans h1.output, Nat.le_trans h1.size h2.size, fun k hk hne => (h2.block k (Nat.lt_of_lt_of_le hk h1.size) hne).trans (h1.block k hk hne)⟩
/-- written once more -/
theorem Ed.again {w w' : World} {g : Nat} {cs : Array Value} {o n : Nat} {M : List Int} (h : Ed w w' g cs o n M) : ∃ cs', Blk w' g 89 cs' ∧ Wn cs' o M ∧ ∀ w2 M', Ed w' w2 g cs' o n M' → Ed w w2 g cs o n M' := by
  obtain ⟨cs', hb, hs, hM, hf⟩ := h.blk
  refine ⟨cs', hb, hM, fun w2 M' h2 => ?_⟩
  obtain ⟨cs2, hb2, hs2, hM2, hf2⟩ := h2.blk
  exact ⟨h2.len, grownBy_trans h.grown h2.grown, cs2, hb2, hs2.trans hs, hM2, fun i hi => (hf2 i hi).trans (hf i hi)⟩
/-- a slice of limbs in normal form that tells 'z' -/
def NV (w : World) (v : Value) (z : Int) : Prop := ∃ L, Sl .u32 w v L ∧ Lim L ∧ Nz L ∧ lv L = z
theorem NV.below {w w' : World} {v : Value} {z : Int} (h : NV w v z) (hb : Below w.heap.size w w') : NV w' v z := by
  obtain ⟨L, h1, h2⟩ := h
  exact ⟨L, h1.below hb, h2⟩
/-- the cell of a fresh zeroed block -/
theorem Wn.made (n : Nat) : Wn (madeCells #[.int .u32 0] n) 0 (List.replicate n 0) := by
  intro j hj
  rw [List.length_replicate] at hj
  rw [made_row, List.getElem?_toArray, List.getElem?_map, Nat.zero_add, List.getElem?_replicate, if_pos hj, Z.getD_rep]
  rfl
end NC
end Go.Proofs.YtpmjeipdldnnbaaDoor

/-
  Package nat: Check, checkBoth, trim, compare.
-/
namespace Go.Proofs.YtpmjeipdldnnbaaDoor
set_option linter.unusedVariables false
set_option linter.unusedSimpArgs false
open Go.RowKit
set_option linter.unusedVariables false
namespace NC
open L
open Z (Nz Tz cmpv)
/-- what Check tells of a list: 2 too long, 3 a nought at its end, 0 right -/
def chk (l : List Int) : Int := if 400 < l.length then 2 else if l.getLast? = some 0 then 3 else 0
theorem Check_c (v : Value) (l : List Int) (w : World) (hs : Sl .u32 w v l) (hl : l.length ≤ 9223372036854775807) :
    Calls Tryd.prog 74 #[v] w (fun e w' => e = .returned (.int .i64 (chk l)) ∧ w = w') := by
  obtain ⟨A, c, rfl, hc, _⟩ := hs.open_
  obtain ⟨m, em⟩ : ∃ m, m = l.length := ⟨_, rfl⟩
  by_cases h4 : 400 < l.length
  · have hr : chk l = 2 := by unfold chk; rw [if_pos h4]
    rw [← em] at h4 hl hc ⊢
    have HR := Lib.hid hr
    clear hr em hs
    go_enter Tryd.func74, Tryd.ntmps74
    go_wp2
    go_ret
    exact ⟨ret_int HR.out.symm, rfl⟩
  · by_cases hne : l = []
    · have hr : chk l = 0 := by subst hne; rfl
      have m0 : m = 0 := by rw [em, hne]; rfl
      rw [← em] at h4 hl hc ⊢
      subst m0
      have HR := Lib.hid hr
      clear hr em hs hne
      go_enter Tryd.func74, Tryd.ntmps74
      go_wp2
      go_ret
      exact ⟨ret_int HR.out.symm, rfl⟩
    · obtain ⟨ad, c', e', _, hb', hcell⟩ := hs.at_ (l.length - 1) (by have := List.length_pos_iff.2 hne; omega)
      injection e' with e1 e2 e3
      subst e1
      subst e3
      clear e2
      have hlast : l.getLast? = some (l.getD (l.length - 1) 0) := by
        rw [List.getLast?_eq_getElem?, List.getD_eq_getElem?_getD, List.getElem?_eq_getElem (by have := List.length_pos_iff.2 hne; omega)]; rfl
      obtain ⟨d, hd⟩ : ∃ d, d = l.getD (l.length - 1) 0 := ⟨_, rfl⟩
      rw [← hd] at hcell hlast
      have h1 : 1 ≤ l.length := List.length_pos_iff.2 hne
      rw [← em] at h4 hl hc hcell h1 ⊢
      by_cases hd0 : d = 0
      · have hr : chk l = 3 := by unfold chk; rw [if_neg (by omega), if_pos (by rw [hlast, hd0])]
        have e1 : (d == 0) = true := by simp [hd0]
        have HR := Lib.hid hr
        clear hr em hs hne hd hd0 hlast hb'
        go_enter Tryd.func74, Tryd.ntmps74
        go_wp2
        go_ret
        exact ⟨ret_int HR.out.symm, rfl⟩
      · have hr : chk l = 0 := by unfold chk; rw [if_neg (by omega), if_neg (by rw [hlast]; simpa using hd0)]
        have e1 : (d == 0) = false := by simp [hd0]
        have HR := Lib.hid hr
        clear hr em hs hne hd hd0 hlast hb'
        go_enter Tryd.func74, Tryd.ntmps74
        go_wp2
        go_ret
        exact ⟨ret_int HR.out.symm, rfl⟩
/-- what checkBoth tells -/
def chk2 (l m : List Int) : Int := if chk l ≠ 0 then chk l else chk m
theorem checkBoth_c (u v : Value) (l m : List Int) (w : World) (hs : Sl .u32 w u l) (ht : Sl .u32 w v m) (hl : l.length ≤ 9223372036854775807) (hm : m.length ≤ 9223372036854775807) :
    Calls Tryd.prog 96 #[u, v] w (fun e w' => e = .returned (.int .i64 (chk2 l m)) ∧ w = w') := by
  have C1 := Lib.hid (Check_c u l w hs hl)
  have C2 := Lib.hid (Check_c v m w ht hm)
  obtain ⟨r, hr⟩ : ∃ r, r = chk l := ⟨_, rfl⟩
  obtain ⟨r2, hr2⟩ : ∃ r, r = chk2 l m := ⟨_, rfl⟩
  obtain ⟨r3, hr3⟩ : ∃ r, r = chk m := ⟨_, rfl⟩
  rw [← hr] at C1
  rw [← hr3] at C2
  rw [← hr2]
  unfold chk2 at hr2
  rw [← hr, ← hr3] at hr2
  clear hs ht hl hm hr hr3
  by_cases h : r = 0
  · have e1 : (r != 0) = false := by simp [h]
    rw [if_neg (by simpa using h)] at hr2
    have H2 := Lib.hid hr2
    clear hr2 h
    go_enter Tryd.func96, Tryd.ntmps96
    go_wp2_with (first | (go_at_call 74; (with_reducible refine (C1.out).mono ?_); rintro e w' ⟨rfl, rfl⟩) | (go_at_call 74; (with_reducible refine (C2.out).mono ?_); rintro e w' ⟨rfl, rfl⟩))
    go_ret
    exact ⟨ret_int H2.out.symm, rfl⟩
  · have e1 : (r != 0) = true := by simp [h]
    rw [if_pos h] at hr2
    have H2 := Lib.hid hr2
    clear hr2 h
    go_enter Tryd.func96, Tryd.ntmps96
    go_wp2_with (first | (go_at_call 74; (with_reducible refine (C1.out).mono ?_); rintro e w' ⟨rfl, rfl⟩))
    go_ret
    exact ⟨ret_int H2.out.symm, rfl⟩
/-- trim: the same slice, maybe shorter, in normal form -/
def RetTr (w : World) (A : Option Addr) (c : Nat) (L : List Int) (e : Ending) (w' : World) : Prop :=
  ∃ m, e = .returned (.slice A m c) ∧ m ≤ L.length ∧ Nz (L.take m) ∧ lv (L.take m) = lv L ∧ w = w'
theorem trim_c (A : Option Addr) (n c : Nat) (L : List Int) (w : World) (hs : Sl .u32 w (.slice A n c) L) (hn : L.length ≤ 1000000000) :
    Calls Tryd.prog 102 #[.slice A n c] w (RetTr w A c L) := by
  obtain ⟨en, hc⟩ := hs.len_
  rw [← en] at hn hc
  have EN := Lib.hid en
  have HS := Lib.hid hs
  clear en hs
  go_enter Tryd.func102, Tryd.ntmps102
  go_wp2
  go_loop [0] (fun v => ∃ k : Nat, k ≤ n ∧ v = .slice A k c ∧ Hid (Tz L k)) (fun v => match v with | .slice _ k _ => k | _ => 0)
  case atStart => exact ⟨n, Nat.le_refl _, rfl, by rw [EN.out]; exact Z.Tz_all L⟩
  case round =>
    obtain ⟨k, hk, rfl, htz⟩ := hrel
    by_cases hk0 : 0 < k
    · obtain ⟨ad, c', e, hc', hb, hcell⟩ := HS.out.at_ (k - 1) (by rw [← EN.out]; omega)
      injection e with e1 e2 e3
      subst e1
      clear e2 e3 hc' c' hb
      obtain ⟨z, hz⟩ : ∃ z, L.getD (k - 1) 0 = z := ⟨_, rfl⟩
      rw [hz] at hcell
      have HZ := Lib.hid hz
      clear hz
      by_cases h0 : z = 0
      · have h1 : (z == 0) = true := by simp [h0]
        have HT2 := Lib.hid (Z.Tz_pred L k hk0 (by rw [← EN.out]; exact hk) (by rw [HZ.out]; exact h0) htz.out)
        clear h0
        go_wp2
        go_round
        case rel => exact ⟨k - 1, by omega, by simp, HT2.out⟩
        case measure => simp; omega
      · have h1 : (z == 0) = false := by simp [h0]
        have HNZ := Lib.hid h0
        clear h0
        go_wp2
        go_ret
        refine ⟨k, rfl, by rw [← EN.out]; exact hk, lim_end (by rw [← EN.out]; exact hk) (.inr (by rw [HZ.out]; exact HNZ.out)), lv_tz htz.out, rfl⟩
    · obtain rfl : k = 0 := by omega
      go_wp2
      go_ret
      exact ⟨0, rfl, by omega, lim_end (by omega) (.inl rfl), lv_tz htz.out, rfl⟩
end NC
end Go.Proofs.YtpmjeipdldnnbaaDoor

/-
  Package nat: compare; cmp.Compare of ints and of limbs.
-/
namespace Go.Proofs.YtpmjeipdldnnbaaDoor
set_option linter.unusedVariables false
set_option linter.unusedSimpArgs false
open Go.RowKit
set_option linter.unusedVariables false
namespace NC
open L
open Z (Nz Tz cmpv)
theorem cmpInt_c (x y : Int) (w : World) : Calls Tryd.prog 110 #[.int .i64 x, .int .i64 y] w (fun e w' => e = .returned (.int .i64 (cmpv x y)) ∧ w = w') := by
  have e0 : (x != x) = false := by simp
  have e1 : (y != y) = false := by simp
  rcases Int.lt_trichotomy x y with h | h | h
  · have hr := Lib.hid (Z.cmpv_lt h)
    have e2 : decide (x < y) = true := by simp [h]
    clear h
    go_enter Tryd.func110, Tryd.ntmps110
    go_wp2
    go_ret
    exact ⟨ret_int hr.out.symm, rfl⟩
  · have hr := Lib.hid (Z.cmpv_eq h)
    have e2 : decide (x < y) = false := by simp [h]
    have e3 : decide (y < x) = false := by simp [h]
    clear h
    go_enter Tryd.func110, Tryd.ntmps110
    go_wp2
    go_ret
    exact ⟨ret_int hr.out.symm, rfl⟩
  · have hr := Lib.hid (Z.cmpv_gt h)
    have e2 : decide (x < y) = false := by simp; omega
    have e3 : decide (y < x) = true := by simp [h]
    clear h
    go_enter Tryd.func110, Tryd.ntmps110
    go_wp2
    go_ret
    exact ⟨ret_int hr.out.symm, rfl⟩
theorem cmpU_c (x y : Int) (w : World) : Calls Tryd.prog 118 #[.int .u32 x, .int .u32 y] w (fun e w' => e = .returned (.int .i64 (cmpv x y)) ∧ w = w') := by
  have e0 : (x != x) = false := by simp
  have e1 : (y != y) = false := by simp
  rcases Int.lt_trichotomy x y with h | h | h
  · have hr := Lib.hid (Z.cmpv_lt h)
    have e2 : decide (x < y) = true := by simp [h]
    clear h
    go_enter Tryd.func118, Tryd.ntmps118
    go_wp2
    go_ret
    exact ⟨ret_int hr.out.symm, rfl⟩
  · have hr := Lib.hid (Z.cmpv_eq h)
    have e2 : decide (x < y) = false := by simp [h]
    have e3 : decide (y < x) = false := by simp [h]
    clear h
    go_enter Tryd.func118, Tryd.ntmps118
    go_wp2
    go_ret
    exact ⟨ret_int hr.out.symm, rfl⟩
  · have hr := Lib.hid (Z.cmpv_gt h)
    have e2 : decide (x < y) = false := by simp; omega
    have e3 : decide (y < x) = true := by simp [h]
    clear h
    go_enter Tryd.func118, Tryd.ntmps118
    go_wp2
    go_ret
    exact ⟨ret_int hr.out.symm, rfl⟩
theorem compare_c (s t : Value) (L M : List Int) (w : World) (hs : Sl .u32 w s L) (ht : Sl .u32 w t M) (hL : Lim L) (hM : Lim M) (nL : Nz L) (nM : Nz M) (bL : L.length ≤ 1000000000) (bM : M.length ≤ 1000000000) :
    Calls Tryd.prog 97 #[s, t] w (RetQ w (.int .i64 (cmpv (lv L) (lv M)))) := by
  obtain ⟨n, hn⟩ : ∃ n, n = L.length := ⟨_, rfl⟩
  obtain ⟨m, hm⟩ : ∃ m, m = M.length := ⟨_, rfl⟩
  obtain ⟨A, c, rfl, hc, hcL⟩ := hs.open_
  obtain ⟨B, d, rfl, hd, hcM⟩ := ht.open_
  rw [← hn] at bL hc hcL ⊢
  rw [← hm] at bM hd hcM ⊢
  obtain ⟨r, hr⟩ : ∃ r, r = cmpv (lv L) (lv M) := ⟨_, rfl⟩
  rw [← hr]
  have HR := Lib.hid hr
  have HN := Lib.hid hn
  have HM := Lib.hid hm
  have CL := Lib.hid hcL
  have CM := Lib.hid hcM
  have DL := Lib.hid hL
  have DM := Lib.hid hM
  have NL := Lib.hid nL
  have NM := Lib.hid nM
  clear hr hn hm hcL hcM hL hM nL nM hs ht
  by_cases h0 : n = m
  · subst h0
    go_enter Tryd.func97, Tryd.ntmps97
    go_wp2
    go_loopw [5] (fun i wr => ∃ k : Nat, k ≤ n ∧ i = .int .i64 ((k : Int) - 1) ∧ (∃ q, wr = w.drewN q) ∧ Hid (L.drop k = M.drop k)) (fun i _ => (intOf i + 1).toNat)
    case atStart => exact ⟨n, Nat.le_refl _, rfl, ⟨0, rfl⟩, by unfold Hid; rw [HN.out, List.drop_length, ← HN.out, HM.out, List.drop_length]⟩
    case round =>
      obtain ⟨k, hk, rfl, ⟨q, rfl⟩, hd⟩ := hrel
      have K1 : (k : Int) ≤ 1000000000 := by omega
      by_cases hk0 : 0 < k
      · obtain ⟨ad, rfl, hb1, hx⟩ := CL.out (k - 1) (by omega)
        obtain ⟨ad2, rfl, hb2, hy⟩ := CM.out (k - 1) (by omega)
        obtain ⟨x, hX⟩ : ∃ x, L.getD (k - 1) 0 = x := ⟨_, rfl⟩
        obtain ⟨y, hY⟩ : ∃ y, M.getD (k - 1) 0 = y := ⟨_, rfl⟩
        rw [hX] at hx
        rw [hY] at hy
        have HX := Lib.hid hX
        have HY := Lib.hid hY
        have i0 : (0 : Int) ≤ (k : Int) - 1 := by omega
        have i1 : (k : Int) - 1 < (n : Int) := by omega
        have i3 : ((k : Int) - 1).toNat = k - 1 := by omega
        have kk : k - 1 + 1 = k := by omega
        clear hX hY hb1 hb2
        by_cases hxy : x = y
        · have e1 : (x != y) = false := by simp [hxy]
          have HD2 := Lib.hid (drop_same (k := k - 1) (by rw [← HN.out]; omega) (by rw [← HM.out]; omega) (by rw [kk]; exact hd.out) (by rw [HX.out, HY.out]; exact hxy))
          clear hxy kk
          go_wp2
          go_region
          go_wp2
          exact ⟨⟨k - 1, by omega, by simp; omega, ⟨q + 1, rfl⟩, HD2.out⟩, by simp only [intOf]; omega⟩
        · have e1 : (x != y) = true := by simp [hxy]
          have CU : Hid (∀ w', Calls Tryd.prog 118 #[.int .u32 x, .int .u32 y] w' (fun e w'' => e = .returned (.int .i64 (cmpv x y)) ∧ w'' = w')) := Lib.hid fun w' => (cmpU_c x y w').mono fun e w'' h => ⟨h.1, h.2.symm⟩
          have hres : cmpv x y = r := by
            rw [HR.out]
            rcases Int.lt_or_lt_of_ne hxy with h | h
            · rw [Z.cmpv_lt h, Z.cmpv_lt (lv_at_lt (k := k - 1) DL.out DM.out (by rw [← HN.out]; omega) (by rw [← HM.out]; omega) (by rw [kk]; exact hd.out) (by rw [HX.out, HY.out]; exact h))]
            · rw [Z.cmpv_gt h, Z.cmpv_gt (lv_at_lt (k := k - 1) DM.out DL.out (by rw [← HM.out]; omega) (by rw [← HN.out]; omega) (by rw [kk]; exact hd.out.symm) (by rw [HX.out, HY.out]; exact h))]
          have HE := Lib.hid hres
          clear hxy kk hres
          go_wp2
          go_region
          go_wp2
          go_quiet ((go_at_call 118; exact (CU.out _).mono fun e w'' h => ⟨h.1, _, h.2⟩))
          go_wp2
          go_ret
          refine ⟨ret_int HE.out, _, World.drewN_drewN _ _ _⟩
      · obtain rfl : k = 0 := by omega
        have HE : r = 0 := by
          rw [HR.out]
          have := hd.out
          simp only [List.drop_zero] at this
          exact Z.cmpv_eq (by rw [this])
        have HE := Lib.hid HE
        go_wp2
        go_ret
        exact ⟨ret_int HE.out.symm, q, rfl⟩
  · have e1 : ((n : Int) != (m : Int)) = true := by rw [bne_iff_ne]; omega
    have CI := Lib.hid (cmpInt_c (n : Int) (m : Int))
    have hres : cmpv (n : Int) (m : Int) = r := by
      rw [HR.out]
      rcases Nat.lt_or_gt_of_ne h0 with h | h
      · rw [Z.cmpv_lt (by omega), Z.cmpv_lt (lv_len DL.out DM.out NM.out (by rw [← HN.out, ← HM.out]; exact h))]
      · rw [Z.cmpv_gt (by omega), Z.cmpv_gt (lv_len DM.out DL.out NL.out (by rw [← HN.out, ← HM.out]; exact h))]
    have HE := Lib.hid hres
    clear h0 hres
    go_enter Tryd.func97, Tryd.ntmps97
    go_wp2_with (first | (go_at_call 110; (with_reducible refine (CI.out _).mono ?_); rintro e w' ⟨rfl, rfl⟩))
    go_ret
    exact ⟨ret_int HE.out, 0, rfl⟩
end NC
end Go.Proofs.YtpmjeipdldnnbaaDoor

/-
  Plain mathematics: the borrow of a difference of limbs, as package math/bits finds it.
-/
namespace Go.Proofs.YtpmjeipdldnnbaaDoor.L
set_option linter.unusedVariables false
set_option linter.unusedSimpArgs false
theorem u32_op (op : BinOp) (f : Nat → Nat → Nat) (hop : ∀ a b : Nat, a < 4294967296 → b < 4294967296 → bits op .u32 (a : Int) (b : Int) = IntKind.u32.wrap ((f a b : Nat) : Int)) (hf : ∀ a b : Nat, a < 4294967296 → b < 4294967296 → f a b < 4294967296)
    (a b : Nat) (ha : a < 4294967296) (hb : b < 4294967296) : bits op .u32 (a : Int) (b : Int) = ((f a b : Nat) : Int) := by
  rw [hop a b ha hb, IntKind.wrap_u32]
  have := hf a b ha hb
  omega
theorem ofInt32 (a : Nat) (ha : a < 4294967296) : (BitVec.ofInt 32 (a : Int)).toNat = a := by
  rw [BitVec.ofInt_natCast, BitVec.toNat_ofNat]; exact Nat.mod_eq_of_lt (by omega)
theorem xor_u32 (a b : Nat) (ha : a < 4294967296) (hb : b < 4294967296) : bits .xor .u32 (a : Int) (b : Int) = ((a ^^^ b : Nat) : Int) := by
  have hx : a ^^^ b < 2 ^ 32 := Nat.xor_lt_two_pow (by omega) (by omega)
  show IntKind.u32.wrap ((BitVec.ofInt 32 (a : Int) ^^^ BitVec.ofInt 32 (b : Int)).toNat : Int) = _
  rw [BitVec.toNat_xor, ofInt32 a ha, ofInt32 b hb, IntKind.wrap_u32]
  omega
theorem and_u32 (a b : Nat) (ha : a < 4294967296) (hb : b < 4294967296) : bits .and .u32 (a : Int) (b : Int) = ((a &&& b : Nat) : Int) := by
  have hx : a &&& b < 2 ^ 32 := Nat.and_lt_two_pow _ (by omega)
  show IntKind.u32.wrap ((BitVec.ofInt 32 (a : Int) &&& BitVec.ofInt 32 (b : Int)).toNat : Int) = _
  rw [BitVec.toNat_and, ofInt32 a ha, ofInt32 b hb, IntKind.wrap_u32]
  omega
theorem or_u32 (a b : Nat) (ha : a < 4294967296) (hb : b < 4294967296) : bits .or .u32 (a : Int) (b : Int) = ((a ||| b : Nat) : Int) := by
  have hx : a ||| b < 2 ^ 32 := Nat.or_lt_two_pow (by omega) (by omega)
  show IntKind.u32.wrap ((BitVec.ofInt 32 (a : Int) ||| BitVec.ofInt 32 (b : Int)).toNat : Int) = _
  rw [BitVec.toNat_or, ofInt32 a ha, ofInt32 b hb, IntKind.wrap_u32]
  omega
theorem top_bit (e : Nat) (h : e < 4294967296) : e / 2147483648 = (e.testBit 31).toNat := by
  rw [Nat.testBit_eq_decide_div_mod_eq]
  by_cases h1 : e / 2 ^ 31 % 2 = 1
  · simp [h1]; omega
  · simp [h1]; omega
theorem borrow_nat (x y d : Nat) (hx : x < 4294967296) (hy : y < 4294967296) (hd : d < 4294967296) :
    ((((4294967295 ^^^ x) &&& y) ||| ((4294967295 ^^^ (x ^^^ y)) &&& d)) / 2147483648) =
      if (x / 2147483648 = 0 ∧ y / 2147483648 = 1) ∨ (x / 2147483648 = y / 2147483648 ∧ d / 2147483648 = 1) then 1 else 0 := by
  have h1 : (4294967295 ^^^ x) &&& y < 2 ^ 32 := Nat.and_lt_two_pow _ (by omega)
  have h2 : (4294967295 ^^^ (x ^^^ y)) &&& d < 2 ^ 32 := Nat.and_lt_two_pow _ (by omega)
  rw [top_bit _ (Nat.or_lt_two_pow h1 h2), top_bit x hx, top_bit y hy, top_bit d hd]
  simp only [Nat.testBit_or, Nat.testBit_and, Nat.testBit_xor]
  rw [show (4294967295 : Nat).testBit 31 = true by decide]
  cases x.testBit 31 <;> cases y.testBit 31 <;> cases d.testBit 31 <;> rfl
theorem borrow_eq (x y c : Int) (hx : 0 ≤ x ∧ x < 4294967296) (hy : 0 ≤ y ∧ y < 4294967296) (hc : 0 ≤ c ∧ c ≤ 1) :
    bits .or .u32 (bits .and .u32 (bits .xor .u32 IntKind.u32.max x) y) (bits .and .u32 (bits .xor .u32 IntKind.u32.max (bits .xor .u32 x y)) ((x - y - c) % 4294967296)) / 2147483648 =
      if x - y - c < 0 then 1 else 0 := by
  obtain ⟨a, rfl⟩ := Int.eq_ofNat_of_zero_le hx.1
  obtain ⟨b, rfl⟩ := Int.eq_ofNat_of_zero_le hy.1
  obtain ⟨d, hd⟩ := Int.eq_ofNat_of_zero_le (Int.emod_nonneg ((a : Int) - b - c) (by decide : (4294967296 : Int) ≠ 0))
  have hd2 : d < 4294967296 := by omega
  have ha : a < 4294967296 := by omega
  have hb : b < 4294967296 := by omega
  rw [hd, show IntKind.u32.max = ((4294967295 : Nat) : Int) by decide]
  have x1 : a ^^^ b < 2 ^ 32 := Nat.xor_lt_two_pow (by omega) (by omega)
  have x2 : 4294967295 ^^^ a < 2 ^ 32 := Nat.xor_lt_two_pow (by omega) (by omega)
  have x3 : 4294967295 ^^^ (a ^^^ b) < 2 ^ 32 := Nat.xor_lt_two_pow (by omega) (by omega)
  have x4 : (4294967295 ^^^ a) &&& b < 2 ^ 32 := Nat.and_lt_two_pow _ (by omega)
  have x5 : (4294967295 ^^^ (a ^^^ b)) &&& d < 2 ^ 32 := Nat.and_lt_two_pow _ (by omega)
  rw [xor_u32 _ _ (by omega) ha, and_u32 _ _ (by omega) hb, xor_u32 _ _ ha hb, xor_u32 _ _ (by omega) (by omega), and_u32 _ _ (by omega) hd2, or_u32 _ _ (by omega) (by omega)]
  rw [show ((2147483648 : Int)) = ((2147483648 : Nat) : Int) by rfl, ← Int.natCast_ediv, borrow_nat a b d ha hb hd2]
  split <;> split <;> omega
/-- shifted limbs put together -/
theorem or_low (y x : Int) (i : Nat) (hi : i ≤ 32) (hy₀ : 0 ≤ y) (hy : y < 2 ^ i) (hx₀ : 0 ≤ x) (hx : x % 2 ^ i = 0) (hx₁ : x < 4294967296) : bits .or .u32 y x = y + x :=
  bits_join_low .u32 32 (by decide) (fun n h0 h1 => by rw [IntKind.wrap_u32]; omega) i y x hy₀ hy (Int.lt_of_lt_of_le hy (by
    have : (2 : Int) ^ i ≤ 2 ^ 32 := by exact_mod_cast Nat.pow_le_pow_right (by decide : 0 < 2) hi
    exact this)) hx₀ hx (by omega)
theorem or_high64 (x y : Int) (hx₀ : 0 ≤ x) (hx : x % 4294967296 = 0) (hx₁ : x < 18446744073709551616) (hy₀ : 0 ≤ y) (hy : y < 4294967296) : bits .or .u64 x y = x + y :=
  bits_join .u64 64 (by decide) (fun n h0 h1 => by rw [IntKind.wrap_u64]; omega) 32 x y hx₀ (by simpa using hx) (by simpa using hx₁) hy₀ (by simpa using hy) (by omega)
end Go.Proofs.YtpmjeipdldnnbaaDoor.L

/-
  Package nat: bits.Add32, bits.Sub32; addTo, subFrom, addTimes.
-/
namespace Go.Proofs.YtpmjeipdldnnbaaDoor
set_option linter.unusedVariables false
set_option linter.unusedSimpArgs false
open Go.RowKit
set_option linter.unusedVariables false
namespace NC
open L
open Z (Nz Tz cmpv)
/-- a sum of limbs and what is carried -/
def RetC (w : World) (x y c : Int) (e : Ending) (w' : World) : Prop := ∃ z c', e = .returned (.tuple #[.int .u32 z, .int .u32 c']) ∧ 0 ≤ z ∧ z < 4294967296 ∧ 0 ≤ c' ∧ c' ≤ 1 ∧ Hid (z + 4294967296 * c' = x + y + c) ∧ w = w'
/-- a difference of limbs and what is borrowed -/
def RetB (w : World) (x y c : Int) (e : Ending) (w' : World) : Prop := ∃ z c', e = .returned (.tuple #[.int .u32 z, .int .u32 c']) ∧ 0 ≤ z ∧ z < 4294967296 ∧ 0 ≤ c' ∧ c' ≤ 1 ∧ Hid (z - 4294967296 * c' = x - y - c) ∧ w = w'
theorem Add32_c (x y c : Int) (w : World) (hx : 0 ≤ x ∧ x < 4294967296) (hy : 0 ≤ y ∧ y < 4294967296) (hc : 0 ≤ c ∧ c ≤ 1) :
    Calls Tryd.prog 141 #[.int .u32 x, .int .u32 y, .int .u32 c] w (RetC w x y c) := by
  go_enter Tryd.func141, Tryd.ntmps141
  go_wp2
  go_ret2
  exact ⟨_, _, rfl, by omega, by omega, by omega, by omega, by unfold Hid; omega, rfl⟩
theorem Sub32_c (x y c : Int) (w : World) (hx : 0 ≤ x ∧ x < 4294967296) (hy : 0 ≤ y ∧ y < 4294967296) (hc : 0 ≤ c ∧ c ≤ 1) :
    Calls Tryd.prog 133 #[.int .u32 x, .int .u32 y, .int .u32 c] w (RetB w x y c) := by
  have HB := Lib.hid (borrow_eq x y c hx hy hc)
  go_enter Tryd.func133, Tryd.ntmps133
  go_wp2
  rw [HB.out]
  go_ret2
  exact ⟨_, _, rfl, by omega, by omega, by split <;> omega, by split <;> omega, by unfold Hid; split <;> omega, rfl⟩
/-- written in place: block g from o on, n limbs; what is told -/
def RetEd (w : World) (g : Nat) (cs : Array Value) (o n : Nat) (p : List Int → Int → Prop) (e : Ending) (w' : World) : Prop :=
  ∃ M k, e = .returned (.int .u32 k) ∧ Ed w w' g cs o n M ∧ Lim M ∧ 0 ≤ k ∧ k < 4294967296 ∧ Hid (p M k)
/-- .. with no result -/
def RetEd0 (w : World) (g : Nat) (cs : Array Value) (o n : Nat) (p : List Int → Prop) (e : Ending) (w' : World) : Prop :=
  ∃ M, e = .returned (.tuple #[]) ∧ Ed w w' g cs o n M ∧ Lim M ∧ Hid (p M)
theorem addTo_c (g o n c : Nat) (cs : Array Value) (X Y : List Int) (vb : Value) (w : World) (hb : Blk w g 89 cs) (hx : Wn cs o X) (hn : X.length = n) (hY : SlA .u32 w vb Y g) (LX : Lim X) (LY : Lim Y)
    (hlen : Y.length ≤ n) (hN : n ≤ 1000000000) (hc : n ≤ c) :
    Calls Tryd.prog 139 #[.slice (some ⟨g, o, none⟩) n c, vb] w (RetEd w g cs o n fun M k => lv M + 4294967296 ^ n * k = lv X + lv Y ∧ k ≤ 1) := by
  have E0 := Lib.hid (Ed.start hb hx hn)
  have hY' := hY
  obtain ⟨B, d, rfl, hd, _⟩ := hY'
  have HY := Lib.hid hY
  obtain ⟨m, hm⟩ : ∃ m, m = Y.length := ⟨_, rfl⟩
  rw [← hm] at hd hlen HY ⊢
  have LY' := Lib.hid LY
  have HM := Lib.hid hm
  have HN := Lib.hid hn
  have I0 := Lib.hid (AddI.start Y LX)
  clear hY hb hx LX LY hm hn
  go_enter Tryd.func139, Tryd.ntmps139
  go_wp2
  go_loopw [11, 5] (fun iv cv wr => ∃ (i : Nat) (M : List Int) (k : Int), iv = .int .i64 i ∧ i ≤ m ∧ cv = .int .u32 k ∧ Hid (AddI X Y i M k) ∧ Hid (Ed w wr g cs o n M)) (fun iv _ _ => m - (intOf iv).toNat)
  case atStart => exact ⟨0, X, 0, rfl, by omega, rfl, I0, E0⟩
  case round =>
    obtain ⟨i, M, k, rfl, hi, rfl, hI, hE⟩ := hrel
    have ik := hI.out.c0
    have ik1 := hI.out.c1
    by_cases him : i < m
    · obtain ⟨ady, cy, ey, hcy, hyc⟩ := (HY.out.grown hE.out.grown).at_ i (by rw [← HM.out]; exact him)
      injection ey with ey1 ey2 ey3
      subst ey1
      clear ey2 ey3 hcy
      have hxc := hE.out.cell i (by omega)
      have bx := hI.out.lim.at_ i
      have bY := LY'.out.at_ i
      have fx := hE.out.frozen (o + i)
      obtain ⟨x, ex⟩ : ∃ x, M.getD i 0 = x := ⟨_, rfl⟩
      obtain ⟨y, ey⟩ : ∃ y, Y.getD i 0 = y := ⟨_, rfl⟩
      rw [ex] at hxc bx
      rw [ey] at hyc bY
      have EX := Lib.hid ex
      have EY := Lib.hid ey
      have A := Lib.hid (Add32_c x y k wr bx bY ⟨ik, ik1⟩)
      clear ex ey
      go_wp2_with (first | (go_at_call 141; (with_reducible refine (A.out).mono ?_); rintro e w2 ⟨z, k2, rfl, hz0, hz1, hk0, hk1, hs, rfl⟩))
      have hI2 := hI.out.step (by rw [HN.out]; omega) hz0 hz1 hk0 hk1 (by rw [EX.out, EY.out]; exact hs.out)
      exact ⟨⟨i + 1, _, k2, by simp, by omega, rfl, hI2, hE.out.set_ i (by omega) z⟩, by simp only [intOf]; omega⟩
    · obtain rfl : m = i := by omega
      go_wp2
      go_loopw [8, 5] (fun iv cv wr => ∃ (i : Nat) (M : List Int) (k : Int), iv = .int .i64 i ∧ m ≤ i ∧ i ≤ n ∧ cv = .int .u32 k ∧ Hid (AddI X Y i M k) ∧ Hid (Ed w wr g cs o n M)) (fun iv _ _ => n - (intOf iv).toNat)
      case atStart => exact ⟨m, M, k, rfl, Nat.le_refl _, hlen, rfl, hI, hE⟩
      case round =>
        obtain ⟨i, M, k, rfl, hmi, hi, rfl, hI, hE⟩ := hrel
        have ik := hI.out.c0
        have ik1 := hI.out.c1
        by_cases hin : i < n
        · by_cases hk : 0 < k
          · have e1 : decide (0 < k) = true := by simp [hk]
            have hxc := hE.out.cell i (by omega)
            have bx := hI.out.lim.at_ i
            have fx := hE.out.frozen (o + i)
            obtain ⟨x, ex⟩ : ∃ x, M.getD i 0 = x := ⟨_, rfl⟩
            rw [ex] at hxc bx
            have EX := Lib.hid ex
            have EY := Lib.hid (Z.getD_out (L := Y) (k := i) (by rw [← HM.out]; exact hmi))
            have A := Lib.hid (Add32_c x 0 k wr bx (by omega) ⟨ik, ik1⟩)
            clear ex hk
            go_wp2_with (first | (go_at_call 141; (with_reducible refine (A.out).mono ?_); rintro e w2 ⟨z, k2, rfl, hz0, hz1, hk0, hk1, hs, rfl⟩))
            have hI2 := hI.out.step (by rw [HN.out]; omega) hz0 hz1 hk0 hk1 (by rw [EX.out, EY.out]; exact hs.out)
            exact ⟨⟨i + 1, _, k2, by simp, by omega, by omega, rfl, hI2, hE.out.set_ i (by omega) z⟩, by simp only [intOf]; omega⟩
          · obtain rfl : k = 0 := by omega
            have hD := Lib.hid (hI.out.done (by rw [← HM.out]; exact hmi) (.inr rfl))
            go_wp2
            go_ret
            exact ⟨M, 0, rfl, hE.out, hI.out.lim, by omega, by omega, by rw [← HN.out]; exact hD.out, by omega⟩
        · obtain rfl : i = n := by omega
          have hD := Lib.hid (hI.out.done (by rw [← HM.out]; exact hmi) (.inl HN.out.symm))
          go_wp2
          go_ret
          exact ⟨M, k, rfl, hE.out, hI.out.lim, by omega, by omega, by rw [← HN.out]; exact hD.out, by omega⟩
theorem subFrom_c (g o n c : Nat) (cs : Array Value) (X Y : List Int) (vb : Value) (w : World) (hb : Blk w g 89 cs) (hx : Wn cs o X) (hn : X.length = n) (hY : SlA .u32 w vb Y g) (LX : Lim X) (LY : Lim Y)
    (hlen : Y.length ≤ n) (hN : n ≤ 1000000000) (hc : n ≤ c) (hle : lv Y ≤ lv X) :
    Calls Tryd.prog 113 #[.slice (some ⟨g, o, none⟩) n c, vb] w (RetEd0 w g cs o n fun M => lv M = lv X - lv Y) := by
  have E0 := Lib.hid (Ed.start hb hx hn)
  have hY' := hY
  obtain ⟨B, d, rfl, hd, _⟩ := hY'
  have HY := Lib.hid hY
  obtain ⟨m, hm⟩ : ∃ m, m = Y.length := ⟨_, rfl⟩
  rw [← hm] at hd hlen HY ⊢
  have LY' := Lib.hid LY
  have HM := Lib.hid hm
  have HN := Lib.hid hn
  have I0 := Lib.hid (SubI.start Y LX)
  have LX' := Lib.hid LX
  have HLE := Lib.hid hle
  clear hY hb hx LX LY hm hn hle
  go_enter Tryd.func113, Tryd.ntmps113
  go_wp2
  go_loopw [10, 4] (fun iv cv wr => ∃ (i : Nat) (M : List Int) (k : Int), iv = .int .i64 i ∧ i ≤ m ∧ cv = .int .u32 k ∧ Hid (SubI X Y i M k) ∧ Hid (Ed w wr g cs o n M)) (fun iv _ _ => m - (intOf iv).toNat)
  case atStart => exact ⟨0, X, 0, rfl, by omega, rfl, I0, E0⟩
  case round =>
    obtain ⟨i, M, k, rfl, hi, rfl, hI, hE⟩ := hrel
    have ik := hI.out.c0
    have ik1 := hI.out.c1
    by_cases him : i < m
    · obtain ⟨ady, cy, ey, hcy, hyc⟩ := (HY.out.grown hE.out.grown).at_ i (by rw [← HM.out]; exact him)
      injection ey with ey1 ey2 ey3
      subst ey1
      clear ey2 ey3 hcy
      have hxc := hE.out.cell i (by omega)
      have bx := hI.out.lim.at_ i
      have bY := LY'.out.at_ i
      have fx := hE.out.frozen (o + i)
      obtain ⟨x, ex⟩ : ∃ x, M.getD i 0 = x := ⟨_, rfl⟩
      obtain ⟨y, ey⟩ : ∃ y, Y.getD i 0 = y := ⟨_, rfl⟩
      rw [ex] at hxc bx
      rw [ey] at hyc bY
      have EX := Lib.hid ex
      have EY := Lib.hid ey
      have A := Lib.hid (Sub32_c x y k wr bx bY ⟨ik, ik1⟩)
      clear ex ey
      go_wp2_with (first | (go_at_call 133; (with_reducible refine (A.out).mono ?_); rintro e w2 ⟨z, k2, rfl, hz0, hz1, hk0, hk1, hs, rfl⟩))
      have hI2 := hI.out.step (by rw [HN.out]; omega) hz0 hz1 hk0 hk1 (by rw [EX.out, EY.out]; exact hs.out)
      exact ⟨⟨i + 1, _, k2, by simp, by omega, rfl, hI2, hE.out.set_ i (by omega) z⟩, by simp only [intOf]; omega⟩
    · obtain rfl : m = i := by omega
      go_wp2
      go_loopw [7, 4] (fun iv cv wr => ∃ (i : Nat) (M : List Int) (k : Int), iv = .int .i64 i ∧ m ≤ i ∧ i ≤ n ∧ cv = .int .u32 k ∧ Hid (SubI X Y i M k) ∧ Hid (Ed w wr g cs o n M)) (fun iv _ _ => n - (intOf iv).toNat)
      case atStart => exact ⟨m, M, k, rfl, Nat.le_refl _, hlen, rfl, hI, hE⟩
      case round =>
        obtain ⟨i, M, k, rfl, hmi, hi, rfl, hI, hE⟩ := hrel
        have ik := hI.out.c0
        have ik1 := hI.out.c1
        by_cases hin : i < n
        · by_cases hk : 0 < k
          · have e1 : decide (0 < k) = true := by simp [hk]
            have hxc := hE.out.cell i (by omega)
            have bx := hI.out.lim.at_ i
            have fx := hE.out.frozen (o + i)
            obtain ⟨x, ex⟩ : ∃ x, M.getD i 0 = x := ⟨_, rfl⟩
            rw [ex] at hxc bx
            have EX := Lib.hid ex
            have EY := Lib.hid (Z.getD_out (L := Y) (k := i) (by rw [← HM.out]; exact hmi))
            have A := Lib.hid (Sub32_c x 0 k wr bx (by omega) ⟨ik, ik1⟩)
            clear ex hk
            go_wp2_with (first | (go_at_call 133; (with_reducible refine (A.out).mono ?_); rintro e w2 ⟨z, k2, rfl, hz0, hz1, hk0, hk1, hs, rfl⟩))
            have hI2 := hI.out.step (by rw [HN.out]; omega) hz0 hz1 hk0 hk1 (by rw [EX.out, EY.out]; exact hs.out)
            exact ⟨⟨i + 1, _, k2, by simp, by omega, by omega, rfl, hI2, hE.out.set_ i (by omega) z⟩, by simp only [intOf]; omega⟩
          · obtain rfl : k = 0 := by omega
            have hD := Lib.hid (hI.out.done LX'.out (by rw [← HM.out]; exact hmi) (.inr rfl) HLE.out)
            go_wp2
            go_end0
            exact ⟨M, rfl, hE.out, hI.out.lim, hD⟩
        · obtain rfl : i = n := by omega
          have hD := Lib.hid (hI.out.done LX'.out (by rw [← HM.out]; exact hmi) (.inl HN.out.symm) HLE.out)
          go_wp2
          go_end0
          exact ⟨M, rfl, hE.out, hI.out.lim, hD⟩
theorem addTimes_c (g o n c : Nat) (cs : Array Value) (X Y : List Int) (vb : Value) (q : Int) (w : World) (hb : Blk w g 89 cs) (hx : Wn cs o X) (hn : X.length = n) (hY : SlA .u32 w vb Y g) (LX : Lim X) (LY : Lim Y)
    (hlen : Y.length ≤ n) (hN : n ≤ 1000000000) (hc : n ≤ c) (hq : 0 ≤ q ∧ q < 4294967296) :
    Calls Tryd.prog 101 #[.slice (some ⟨g, o, none⟩) n c, vb, .int .u32 q] w (RetEd w g cs o n fun M k => lv M + 4294967296 ^ Y.length * k = lv X + q * lv Y ∧ ∀ j, Y.length ≤ j → M.getD j 0 = X.getD j 0) := by
  have E0 := Lib.hid (Ed.start hb hx hn)
  have hY' := hY
  obtain ⟨B, d, rfl, hd, _⟩ := hY'
  have HY := Lib.hid hY
  obtain ⟨m, hm⟩ : ∃ m, m = Y.length := ⟨_, rfl⟩
  rw [← hm] at hd hlen HY ⊢
  have LY' := Lib.hid LY
  have HM := Lib.hid hm
  have HN := Lib.hid hn
  have I0 := Lib.hid (TimI.start 1 Y q LX)
  clear hY hb hx LX LY hm hn
  go_enter Tryd.func101, Tryd.ntmps101
  go_wp2
  go_loopw [12, 7] (fun iv cv wr => ∃ (i : Nat) (M : List Int) (k : Int), iv = .int .i64 i ∧ i ≤ m ∧ cv = .int .u64 k ∧ k < 4294967296 ∧ Hid (TimI 1 X Y q i M k) ∧ Hid (Ed w wr g cs o n M)) (fun iv _ _ => m - (intOf iv).toNat)
  case atStart => exact ⟨0, X, 0, rfl, by omega, rfl, by omega, I0, E0⟩
  case round =>
    obtain ⟨i, M, k, rfl, hi, rfl, hk, hI, hE⟩ := hrel
    have ik := hI.out.c0
    by_cases him : i < m
    · obtain ⟨ady, cy, ey, hcy, hyc⟩ := (HY.out.grown hE.out.grown).at_ i (by rw [← HM.out]; exact him)
      injection ey with ey1 ey2 ey3
      subst ey1
      clear ey2 ey3 hcy
      have hxc := hE.out.cell i (by omega)
      have bx := hI.out.lim.at_ i
      have bY := LY'.out.at_ i
      have fx := hE.out.frozen (o + i)
      obtain ⟨x, ex⟩ : ∃ x, M.getD i 0 = x := ⟨_, rfl⟩
      obtain ⟨y, ey⟩ : ∃ y, Y.getD i 0 = y := ⟨_, rfl⟩
      rw [ex] at hxc bx
      rw [ey] at hyc bY
      have hxy : 0 ≤ y * q := Int.mul_nonneg bY.1 hq.1
      have hxy2 : y * q ≤ 4294967295 * 4294967295 := Int.mul_le_mul (by omega) (by omega) hq.1 (by omega)
      have hS : ∀ z c', 0 ≤ z → z < 4294967296 → 0 ≤ c' → c' ≤ 4294967296 → z + 4294967296 * c' = x + y * q + k → TimI 1 X Y q (i + 1) (M.set i z) c' := fun z c' h0 h1 h2 h3 h4 =>
        hI.out.step (by rw [HN.out]; omega) h0 h1 h2 h3 (by rw [ex, ey]; omega)
      have HS := Lib.hid hS
      have hES := Lib.hid (fun z => hE.out.set_ i (by omega) z)
      clear ex ey hS
      obtain ⟨p, hp⟩ : ∃ p, y * q = p := ⟨_, rfl⟩
      rw [hp] at hxy hxy2 HS
      go_wp2
      exact ⟨⟨i + 1, _, _, by simp, by omega, rfl, by omega, HS.out _ _ (by omega) (by omega) (by omega) (by omega) (by omega), hES.out _⟩, by simp only [intOf]; omega⟩
    · obtain rfl : m = i := by omega
      have hD := Lib.hid (hI.out.done (by rw [← HM.out]; exact Nat.le_refl _))
      have hR := Lib.hid hI.out.rest
      go_wp2
      go_ret
      exact ⟨M, k, rfl, hE.out, hI.out.lim, by omega, by omega, by have := hD.out; omega, hR.out⟩
end NC
end Go.Proofs.YtpmjeipdldnnbaaDoor

/-
  Words for memory: limbs copied into a new zeroed block; what a call tells: limbs in normal form, and an error.
-/
namespace Go.Proofs.YtpmjeipdldnnbaaDoor
set_option linter.unusedVariables false
set_option linter.unusedSimpArgs false
open Go.RowKit
set_option linter.unusedVariables false
namespace NC
open L
open Z (Nz Tz cmpv)
theorem Wn.row (L : List Int) : Wn ((L.map (Value.int .u32)).toArray) 0 L := by
  intro j hj
  rw [List.getElem?_toArray, List.getElem?_map, Nat.zero_add, List.getD_eq_getElem?_getD, List.getElem?_eq_getElem hj]
  rfl
theorem splice_limbs (N : Nat) (l : List Int) (h : l.length ≤ N) : splice ((List.replicate N (0 : Int)).map (Value.int .u32)) 0 (l.map (Value.int .u32)) = (l ++ List.replicate (N - l.length) 0).map (Value.int .u32) := by
  simp [splice]
theorem wp_copy_limbs {w : World} {ops : Array Oper} {rest : List Oper} {o : Oper} {a : Act} {Q : Exit → Act → World → Prop} (hgd : o.guard = none) (d s : Operand)
    (ho : o.op = .call { callee := .builtin .copy, args := #[d, s], argTypes := #[33, 33] }) (g N : Nat) (hd : a.eval d = .slice (some ⟨g, 0, none⟩) N N) (vs : Value) (hs : a.eval s = vs) (l : List Int) (hS : Sl .u32 w vs l) (hl : l.length ≤ N)
    (hg : Row .u32 89 w g (List.replicate N 0)) (B : Nat) (w0 : World) (hb : Below B w0 w) (hBg : B ≤ g)
    (h : ∀ w', Hid (Row .u32 89 w' g (l ++ List.replicate (N - l.length) 0)) → Below B w0 w' → wpList Tryd.prog ops Q rest (a.put o.dst (goInt l.length)) w') : wpList Tryd.prog ops Q (o :: rest) a w := by
  obtain ⟨A, c, rfl, hc, hA⟩ := hS
  refine wpList_copy_splice hgd d s 33 33 ho 89 Tryd.underlying33 (by kernel_rfl) (some ⟨g, 0, none⟩) A N N l.length c hd hs g 0 ((List.replicate N (0 : Int)).map (Value.int .u32)) 89 hg (l.map (Value.int .u32)) (by rw [List.length_map]; exact (Nat.min_eq_left hl).symm)
    (fun h0 => ⟨rfl, ?_⟩) (by simp; exact hl) (by intro v hv; obtain ⟨z, _, rfl⟩ := List.mem_map.1 hv; rfl) B w0 hb hBg ?_
  · rcases hA with h1 | ⟨ad, rfl, hb1, hc1⟩
    · subst h1; simp at h0
    · refine ⟨ad, rfl, fun j v hv => ?_⟩
      have hj : j < l.length := by
        rcases Nat.lt_or_ge j l.length with h | h
        · exact h
        · rw [List.getElem?_eq_none (by simpa using h)] at hv; cases hv
      rw [hc1 j hj]
      rw [List.getElem?_map, List.getElem?_eq_getElem hj] at hv
      simpa using hv
  · intro w' hw' hb'
    have hR := hw'.out
    rw [splice_limbs N l hl] at hR
    have := h w' hR hb'
    simpa using this
/-- limbs in normal form that tell 'z', and an error -/
def RetL (w : World) (er z : Int) (e : Ending) (w' : World) : Prop := ∃ A n c, e = .returned (.tuple #[.slice A n c, .int .i64 er]) ∧ NV w' (.slice A n c) z ∧ Below w.heap.size w w'
theorem NV.nil (w : World) (c : Nat) (A : Option Addr) : NV w (.slice A 0 c) 0 := ⟨[], Sl.nil _ _ _ _, Lim.nil, (by intro h; exact absurd rfl h), rfl⟩
theorem RetL.err {w w' : World} {er : Int} (hb : Below w.heap.size w w') : RetL w er 0 (.returned (.tuple #[.slice none 0 0, .int .i64 er])) w' := ⟨none, 0, 0, rfl, NV.nil _ _ _, hb⟩
theorem chk_ok {l : List Int} : chk l = 0 ↔ l.length ≤ 400 ∧ Nz l := by
  unfold chk
  by_cases h4 : 400 < l.length
  · rw [if_pos h4]; constructor
    · intro h; cases h
    · intro h; omega
  · rw [if_neg h4]
    by_cases hne : l = []
    · subst hne
      exact ⟨fun _ => ⟨by simp, fun h => absurd rfl h⟩, fun _ => rfl⟩
    · by_cases h0 : l.getLast hne = 0
      · rw [if_pos (by rw [List.getLast?_eq_some_getLast hne, h0])]
        constructor
        · intro h; cases h
        · intro h; exact absurd h0 (h.2 hne)
      · rw [if_neg (by rw [List.getLast?_eq_some_getLast hne]; simpa using h0)]
        exact ⟨fun _ => ⟨by omega, fun _ => h0⟩, fun _ => rfl⟩
theorem chk2_ok {l m : List Int} : chk2 l m = 0 ↔ chk l = 0 ∧ chk m = 0 := by
  unfold chk2
  by_cases h : chk l = 0
  · rw [if_neg (by simpa using h)]; simp [h]
  · rw [if_pos h]; simp [h]
theorem trimmed {w' : World} {A : Option Addr} {c m : Nat} {L : List Int} {z : Int} (hs : Sl .u32 w' (.slice A L.length c) L) (hm : m ≤ L.length) (hl : Lim L) (hn : Nz (L.take m)) (hv : lv (L.take m) = lv L) (hz : lv L = z) : NV w' (.slice A m c) z :=
  ⟨L.take m, hs.take m hm, hl.take m, hn, hv.trans hz⟩
theorem Ed.sl {w w' : World} {g : Nat} {cs : Array Value} {o n : Nat} {M : List Int} (h : Ed w w' g cs o n M) (c : Nat) (hc : n ≤ c) : Sl .u32 w' (.slice (some ⟨g, o, none⟩) M.length c) M := by
  obtain ⟨cs', hb, _, hM, _⟩ := h.blk
  refine ⟨_, c, rfl, by rw [h.len]; exact hc, .inr ⟨⟨g, o, none⟩, rfl, hb.lt, fun j hj => ?_⟩⟩
  have e : (⟨g, o, none⟩ : Addr).add j = ⟨g, o + j, none⟩ := by unfold Addr.add; split <;> simp_all
  rw [e, hb.at_ _ (hM j hj), List.getD_eq_getElem?_getD, List.getElem?_eq_getElem hj]; rfl
theorem lv_pad (l : List Int) (k : Nat) : lv (l ++ List.replicate k 0) = lv l := by rw [lv_append, lv_rep]; simp
theorem Lim.pad {l : List Int} (h : Lim l) (k : Nat) : Lim (l ++ List.replicate k 0) := h.app (Lim.rep k)
theorem len_pad (l : List Int) (N : Nat) (h : l.length ≤ N) : (l ++ List.replicate (N - l.length) 0).length = N := by simp; omega
theorem no_carry {l m M : List Int} {N : Nat} {k : Int} (hl : Lim l) (hm : Lim m) (h1 : l.length < N) (h2 : m.length < N) (hM : Lim M) (k0 : 0 ≤ k) (h : lv M + 4294967296 ^ N * k = lv l + lv m) : lv M = lv l + lv m := by
  obtain ⟨n, rfl⟩ : ∃ n, N = n + 1 := ⟨N - 1, by omega⟩
  have a1 := Int.lt_of_lt_of_le (lv_lt hl) (pow_mono (show l.length ≤ n by omega))
  have a2 := Int.lt_of_lt_of_le (lv_lt hm) (pow_mono (show m.length ≤ n by omega))
  have a3 := lv_nonneg hM
  have a4 := pow_pos n
  rw [Int.pow_succ] at h
  by_cases hk : k = 0
  · subst hk; simpa using h
  · have : (4294967296 : Int) ^ n * 4294967296 * 1 ≤ 4294967296 ^ n * 4294967296 * k := Int.mul_le_mul_of_nonneg_left (by omega) (by omega)
    omega
end NC
end Go.Proofs.YtpmjeipdldnnbaaDoor

/-
  Package nat: Of, Cmp, Add.
-/
namespace Go.Proofs.YtpmjeipdldnnbaaDoor
set_option linter.unusedVariables false
set_option linter.unusedSimpArgs false
open Go.RowKit
set_option linter.unusedVariables false
namespace NC
open L
open Z (Nz Tz cmpv)
theorem Cmp_c (u v : Value) (l m : List Int) (w : World) (hs : Sl .u32 w u l) (ht : Sl .u32 w v m) (hl : l.length ≤ 9223372036854775807) (hm : m.length ≤ 9223372036854775807) (Ll : Lim l) (Lm : Lim m) :
    Calls Tryd.prog 72 #[u, v] w (RetQ w (.tuple #[.int .i64 (if chk2 l m = 0 then cmpv (lv l) (lv m) else 0), .int .i64 (chk2 l m)])) := by
  have C := Lib.hid (checkBoth_c u v l m w hs ht hl hm)
  obtain ⟨r, hr⟩ : ∃ r, r = chk2 l m := ⟨_, rfl⟩
  rw [← hr] at C ⊢
  by_cases h : r = 0
  · have h1 := (chk2_ok.1 (hr.symm.trans h))
    have h2 := chk_ok.1 h1.1
    have h3 := chk_ok.1 h1.2
    have P := Lib.hid (compare_c u v l m w hs ht Ll Lm h2.2 h3.2 (by omega) (by omega))
    rw [if_pos h]
    clear hs ht hl hm Ll Lm hr h1 h2 h3
    subst h
    generalize cmpv (lv l) (lv m) = q at P ⊢
    go_enter Tryd.func72, Tryd.ntmps72
    go_wp2_with (first | (go_at_call 96; (with_reducible refine (C.out).mono ?_); rintro e w' ⟨rfl, rfl⟩) | (go_at_call 97; (with_reducible refine (P.out).mono ?_); rintro e w2 ⟨rfl, k, rfl⟩))
    go_ret2
    exact ⟨rfl, k, rfl⟩
  · have e1 : (r != 0) = true := by simp [h]
    rw [if_neg h]
    clear hs ht hl hm Ll Lm hr h
    go_enter Tryd.func72, Tryd.ntmps72
    go_wp2_with (first | (go_at_call 96; (with_reducible refine (C.out).mono ?_); rintro e w' ⟨rfl, rfl⟩))
    go_ret2
    exact ⟨rfl, 0, rfl⟩
/-- limbs in normal form that tell 'z' -/
def RetV (w : World) (z : Int) (e : Ending) (w' : World) : Prop := ∃ A n c, e = .returned (.slice A n c) ∧ NV w' (.slice A n c) z ∧ Below w.heap.size w w'
/-- a block of the call's own, written; it reads M, which tells z -/
def RetRow (w : World) (g N : Nat) (z : Int) (e : Ending) (w' : World) : Prop := ∃ M k, e = .returned (.int .u32 k) ∧ w.grownBy w' (some g) ∧ Hid (Sl .u32 w' (.slice (some ⟨g, 0, none⟩) N N) M ∧ M.length = N ∧ Lim M ∧ lv M = z)
set_option maxRecDepth 100000 in
theorem addTo_row (g N : Nat) (l m : List Int) (vb : Value) (w : World) (hR : Row .u32 89 w g (l ++ List.replicate (N - l.length) 0)) (hY : SlA .u32 w vb m g) (Ll : Lim l) (Lm : Lim m) (hl : l.length < N) (hm : m.length < N) (hN : N ≤ 1000000000) :
    Calls Tryd.prog 139 #[.slice (some ⟨g, 0, none⟩) N N, vb] w (RetRow w g N (lv l + lv m)) := by
  refine (addTo_c g 0 N N _ _ m vb w hR (Wn.row _) (len_pad l N (by omega)) hY (Lim.pad Ll _) Lm (by omega) hN (Nat.le_refl _)).mono fun e w' h => ?_
  obtain ⟨M, k, rfl, hE, hL, k0, k1, hv⟩ := h
  have hv := hv.out
  rw [lv_pad] at hv
  have hS := hE.sl N (Nat.le_refl _)
  rw [hE.len] at hS
  exact ⟨M, k, rfl, hE.grown, hS, hE.len, hL, no_carry Ll Lm hl hm hL k0 hv.1⟩
set_option maxRecDepth 100000 in
theorem Add_c (u v : Value) (l m : List Int) (w : World) (hs : Sl .u32 w u l) (ht : Sl .u32 w v m) (hl : l.length ≤ 9223372036854775807) (hm : m.length ≤ 9223372036854775807) (Ll : Lim l) (Lm : Lim m) :
    Calls Tryd.prog 123 #[u, v] w (RetL w (chk2 l m) (if chk2 l m = 0 then lv l + lv m else 0)) := by
  have C := Lib.hid (checkBoth_c u v l m w hs ht hl hm)
  obtain ⟨r, hr⟩ : ∃ r, r = chk2 l m := ⟨_, rfl⟩
  rw [← hr] at C ⊢
  by_cases h : r = 0
  · have h1 := (chk2_ok.1 (hr.symm.trans h))
    have h2 := chk_ok.1 h1.1
    have h3 := chk_ok.1 h1.2
    rw [if_pos h]
    obtain ⟨A, c, rfl, hc⟩ := hs.form
    obtain ⟨B, d, rfl, hd⟩ := ht.form
    have HS := Lib.hid hs
    have HT := Lib.hid ht
    have LL := Lib.hid Ll
    have LM := Lib.hid Lm
    obtain ⟨x, ex⟩ : ∃ x, x = l.length := ⟨_, rfl⟩
    obtain ⟨y, ey⟩ : ∃ y, y = m.length := ⟨_, rfl⟩
    have hmkx := run_make_row' (P := Tryd.prog) 33 89 (.int .u32 0) 4 Tryd.underlying33 (by kernel_rfl) rfl .i64 .i64 (x + 1) (by have := h2.1; omega) (by have := h2.1; omega)
    have hmky := run_make_row' (P := Tryd.prog) 33 89 (.int .u32 0) 4 Tryd.underlying33 (by kernel_rfl) rfl .i64 .i64 (y + 1) (by have := h3.1; omega) (by have := h3.1; omega)
    rw [show ((x + 1 : Nat) : Int) = (x : Int) + 1 by omega] at hmkx
    rw [show ((y + 1 : Nat) : Int) = (y : Int) + 1 by omega] at hmky
    rw [← ex] at hc h2 C HS ⊢
    rw [← ey] at hd h3 C HT ⊢
    have EX := Lib.hid ex
    have EY := Lib.hid ey
    have x4 : x ≤ 400 := h2.1
    have y4 : y ≤ 400 := h3.1
    clear hs ht hl hm Ll Lm hr h1 h2 h3 ex ey
    subst h
    go_enter Tryd.func123, Tryd.ntmps123
    go_wp2_with (first | (go_at_call 96; (with_reducible refine (C.out).mono ?_); rintro e w' ⟨rfl, rfl⟩) | (with_reducible refine wp_copy_limbs rfl (.tmp 21) (.tmp 22) rfl w.heap.size _ rfl _ rfl l (HS.out.below ((Below.refl _ _).alloc (Nat.le_refl _) _)) (by have := EX.out; omega) (Row.new' _ _ _ _ rfl) w.heap.size w ((Below.refl _ _).alloc (Nat.le_refl _) _) (Nat.le_refl _) ?_; intro w3 hR3 hB3) | (go_at_call 139; (with_reducible refine (addTo_row w.heap.size _ l m _ w3 hR3.out (SlA.old HT.out hB3 (Nat.le_refl _)) LL.out LM.out (by have := EX.out; omega) (by have := EY.out; omega) (by omega)).mono ?_); rintro e w4 ⟨M, k, rfl, hg4, h4⟩) | (go_at_call 102; (with_reducible refine (trim_c _ _ _ M _ h4.out.1 (by have := h4.out.2.1; omega)).mono ?_); rintro e w5 ⟨m5, rfl, hm5, hz5, hv5, rfl⟩))
    all_goals go_ret2
    all_goals exact ⟨_, _, _, rfl, trimmed (L := M) (by rw [h4.out.2.1]; exact h4.out.1) hm5 h4.out.2.2.1 hz5 hv5 h4.out.2.2.2, hB3.grown hg4 hB3.size fun k hk => by injection hk with hk; omega⟩
  · have e1 : (r != 0) = true := by simp [h]
    rw [if_neg h]
    clear hs ht hl hm Ll Lm hr h
    go_enter Tryd.func123, Tryd.ntmps123
    go_wp2_with (first | (go_at_call 96; (with_reducible refine (C.out).mono ?_); rintro e w' ⟨rfl, rfl⟩))
    go_ret2
    exact RetL.err (Below.refl _ _)
end NC
end Go.Proofs.YtpmjeipdldnnbaaDoor

/-
  Package nat: clone, Sub.
-/
namespace Go.Proofs.YtpmjeipdldnnbaaDoor
set_option linter.unusedVariables false
set_option linter.unusedSimpArgs false
open Go.RowKit
set_option linter.unusedVariables false
namespace NC
open L
open Z (Nz Tz cmpv)
theorem el_u32 : Elem 33 89 .u32 := Elem.of Tryd.underlying33 (b := 4) (by kernel_rfl) (by decide)
/-- limbs at the head of a block of the call's own -/
def Head (w : World) (B g c : Nat) (l : List Int) : Prop := B ≤ g ∧ l.length ≤ c ∧ ∃ cs, Blk w g 89 cs ∧ Wn cs 0 l
theorem own_head {w : World} {B : Nat} {v : Value} {l : List Int} (h : Own .u32 89 w B v l) (hne : l ≠ []) : ∃ g c, v = .slice (some ⟨g, 0, none⟩) l.length c ∧ Head w B g c l := by
  rcases h.2 with ⟨_, h0⟩ | ⟨g, cap, cur, rfl, hg, hgg, hc, hm, hs, ht⟩
  · exact absurd (List.eq_nil_of_length_eq_zero h0) hne
  · refine ⟨g, cap, rfl, hg, hc, cur, hgg, fun j hj => ?_⟩
    have e := congrArg (fun x => x[j]?) ht
    simp only [Nat.mul_one, List.getElem?_map] at e
    rw [List.getElem?_take, if_pos hj, List.getElem?_eq_getElem hj] at e
    rw [Nat.zero_add, ← Array.getElem?_toList, e, List.getD_eq_getElem?_getD, List.getElem?_eq_getElem hj]; rfl
theorem wp_clone {w : World} {ops : Array Oper} {rest : List Oper} {o : Oper} {a : Act} {Q : Exit → Act → World → Prop} (hgd : o.guard = none) (s x : Operand)
    (hop : o.op = Op.call { callee := Callee.builtin Builtin.append, args := #[s, x], argTypes := #[33, 33] })
    (g : Nat) (hs : a.eval s = .slice (some ⟨g, 0, none⟩) 0 0) (vx : Value) (hx : a.eval x = vx) (l : List Int) (hS : Sl .u32 w vx l) (hl : l.length ≤ 1000000000000) (hg : Blk w g 89 #[])
    (h : ∀ g' c w', Hid (Head w' g g' c l) → w.grownBy w' none → wpList Tryd.prog ops Q rest (a.put o.dst (.slice (some ⟨g', 0, none⟩) l.length c)) w') : wpList Tryd.prog ops Q (o :: rest) a w := by
  refine wpList_plain hgd fun K hK => ?_
  obtain ⟨i, hi, h0, h1, h2⟩ := el_u32.info
  obtain ⟨A, cx, rfl, hcx, hA⟩ := hS
  by_cases hM0 : l = []
  · subst hM0
    have hsrc : Src Tryd.prog i.size 33 (.slice A 0 cx) 0 [] w := by
      cases A with
      | none => exact Src.ofNil w el_u32.ht cx
      | some adx => exact Src.ofSlice w el_u32.ht adx 0 cx [] (by simp) (by intro j u hu; cases hu) (by intro u hu; cases hu)
    have hrun := run_append_nothing (P := Tryd.prog) w 33 33 o.type 89 i el_u32.ht hi (some ⟨g, 0, none⟩) 0 0 (by omega) _ hsrc
    have hx' : a.eval x = .slice A 0 cx := hx
    unfold Oper.wp
    simp [execOp, hop, resolve, invoke, builtin, hs, hx', hrun, Result.andThen]
    exact hK _ _ (h g 0 w ⟨Nat.le_refl _, Nat.le_refl _, #[], hg, (by intro j hj; simp at hj)⟩ (World.grownBy.refl _ _))
  · rcases hA with h' | ⟨adx, rfl, hb1, hc1⟩
    · exact absurd h' hM0
    · have hM : Sl .u32 w (.slice (some adx) l.length cx) l := ⟨_, cx, rfl, hcx, .inr ⟨adx, rfl, hb1, hc1⟩⟩
      have hpos := List.length_pos_iff.2 hM0
      have hbytes : (0 + l.length) * i.bytes ≤ (0 + l.length) * 8 := Nat.mul_le_mul_left _ h2
      have hstep := step_append_grows (ops := #[]) (E := True) (Q := Q) (K := K) hgd s x 33 hop 89 i (.int .u32 0) 1 i.bytes el_u32.ht hi h0 h1 rfl rfl (by decide) (some ⟨g, 0, none⟩) 0 0 [] hs (fun h => by cases h) (by simp) (by intro b hb j u hu; cases hu)
        adx l.length cx (l.map (Value.int .u32)) hx (by simp) hM.news (by intro u hu; obtain ⟨z, _, rfl⟩ := List.mem_map.1 hu; rfl) (by omega) (by unfold maxLen; omega) (by omega) ?_
      · rwa [if_pos (by simp [Region.wanted, hgd])] at hstep
      · intro v' w' hown hgr
        have hown' : Own .u32 89 w' w.heap.size v' l := by
          unfold Own
          simpa using hown
        obtain ⟨g', c', rfl, hd⟩ := own_head hown' hM0
        refine hK _ _ (h g' c' w' ⟨Nat.le_trans (Nat.le_of_lt hg.lt) hd.1, hd.2⟩ ?_)
        exact hgr
/-- a copy, in a block of the call's own -/
def RetH (w : World) (l : List Int) (e : Ending) (w' : World) : Prop := ∃ g c, e = .returned (.slice (some ⟨g, 0, none⟩) l.length c) ∧ Hid (Head w' w.heap.size g c l) ∧ Below w.heap.size w w'
theorem clone_c (v : Value) (l : List Int) (w : World) (hs : Sl .u32 w v l) (hl : l.length ≤ 1000000000) : Calls Tryd.prog 98 #[v] w (RetH w l) := by
  obtain ⟨A, c, rfl, hc⟩ := hs.form
  have HS := Lib.hid (hs.alloc (.cells #[] 89))
  obtain ⟨n, hn⟩ : ∃ n, n = l.length := ⟨_, rfl⟩
  rw [← hn] at hc hl HS ⊢
  have HN := Lib.hid hn
  clear hs hn
  go_enter Tryd.func98, Tryd.ntmps98
  go_wp2_with (first | (at_builtin; refine wp_clone rfl (.tmp 3) (.tmp 4) rfl w.heap.size rfl _ rfl l HS.out (by have := HN.out; omega) (Blk.new _ _ _) ?_; intro g' c' w2 hH hg))
  go_ret
  exact ⟨g', c', rfl, hH, ((Below.refl _ _).alloc (Nat.le_refl _) _).grown hg (by simp) fun k hk => by cases hk⟩
/-- what Sub tells of an error -/
def errSub (l m : List Int) : Int := if chk2 l m = 0 then (if lv l < lv m then 1 else 0) else chk2 l m
end NC
end Go.Proofs.YtpmjeipdldnnbaaDoor

/-
  Words for memory: a stretch within a block of limbs that is known whole, written in place.
-/
namespace Go.Proofs.YtpmjeipdldnnbaaDoor
set_option linter.unusedVariables false
set_option linter.unusedSimpArgs false
open Go.RowKit
set_option linter.unusedVariables false
namespace NC
open L
open Z (Nz Tz cmpv)
theorem Wn.part (P : List Int) (i n : Nat) : Wn ((P.map (Value.int .u32)).toArray) i ((P.drop i).take n) := by
  intro j hj
  have hj' : i + j < P.length := by simp at hj; omega
  have hn : j < n := by simp at hj; omega
  rw [List.getElem?_toArray, List.getElem?_map, List.getElem?_eq_getElem hj', List.getD_eq_getElem?_getD, List.getElem?_take, if_pos hn, List.getElem?_drop, List.getElem?_eq_getElem hj']
  rfl
theorem Ed.row {w w' : World} {g i n : Nat} {P M : List Int} (h : Ed w w' g ((P.map (Value.int .u32)).toArray) i n M) (hin : i + n ≤ P.length) : Row .u32 89 w' g (P.take i ++ (M ++ P.drop (i + n))) := by
  obtain ⟨cs', hb, hsz, hM, hf⟩ := h.blk
  have e : cs' = ((P.take i ++ (M ++ P.drop (i + n))).map (Value.int .u32)).toArray := by
    apply Array.ext_getElem?
    intro j
    have hlen := h.len
    have hr : ∀ X : List Int, ((X.map (Value.int .u32)).toArray)[j]? = (X[j]?).map (Value.int .u32) := fun X => by simp
    rw [hr]
    rcases Nat.lt_or_ge j i with h1 | h1
    · rw [hf j (.inl h1), List.getElem?_append_left (by simp; omega), List.getElem?_take, if_pos h1, hr]
    · rw [List.getElem?_append_right (by simp; omega), List.length_take, Nat.min_eq_left (by omega)]
      rcases Nat.lt_or_ge j (i + n) with h2 | h2
      · have := hM (j - i) (by omega)
        rw [show i + (j - i) = j by omega] at this
        rw [this, List.getElem?_append_left (by omega), List.getD_eq_getElem?_getD, List.getElem?_eq_getElem (by omega)]; rfl
      · rw [hf j (.inr h2), List.getElem?_append_right (by omega), List.getElem?_drop, hr, show i + n + (j - i - M.length) = j by omega]
  unfold Row
  rw [← e]; exact hb
/-- multiplying under way: so many limbs of l have been taken times m -/
structure MulN (l m : List Int) (N i : Nat) (P : List Int) : Prop where
  len : P.length = N
  lim : Lim P
  val : lv P = lv (l.take i) * lv m
  zero : ∀ j, i + m.length ≤ j → P.getD j 0 = 0
theorem MulN.start (l m : List Int) (N : Nat) : MulN l m N 0 (List.replicate N 0) := ⟨by simp, Lim.rep _, by rw [lv_rep]; simp [lv], fun j _ => Z.getD_rep _ _⟩
theorem MulN.step {l m P M : List Int} {N i : Nat} {k q : Int} (h : MulN l m N i P) (hi : i + m.length < N) (hq : l.getD i 0 = q) (hM : M.length = N - i) (lM : Lim M) (k0 : 0 ≤ k) (k1 : k < 4294967296)
    (hv : lv M + 4294967296 ^ m.length * k = lv (P.drop i) + q * lv m) (hf : ∀ j, m.length ≤ j → M.getD j 0 = (P.drop i).getD j 0) : MulN l m N (i + 1) ((P.take i ++ M).set (i + m.length) k) := by
  have hl : (P.take i ++ M).length = N := by simp [hM, h.len]; omega
  have e1 : ∀ j, (P.drop i).getD j 0 = P.getD (i + j) 0 := fun j => by simp [List.getD_eq_getElem?_getD]
  have e2 : ∀ j, i ≤ j → (P.take i ++ M).getD j 0 = M.getD (j - i) 0 := fun j hj => by
    rw [List.getD_eq_getElem?_getD, List.getElem?_append_right (by simp [h.len]; omega), List.getD_eq_getElem?_getD]
    simp [h.len, Nat.min_eq_left (show i ≤ N by omega)]
  refine ⟨by simp [hl], (((h.lim.take i).app lM).set _ k0 k1), ?_, fun j hj => ?_⟩
  · rw [lv_set _ _ _ (by omega), e2 _ (by omega), show i + m.length - i = m.length by omega, hf _ (Nat.le_refl _), e1, h.zero _ (Nat.le_refl _), lv_append, lv_take_succ, hq]
    have h2 := lv_cut P i (by rw [h.len]; omega)
    have h3 := h.val
    have e3 : (P.take i).length = i := by simp [h.len]; omega
    rw [e3, Int.pow_add]
    have e4 : (4294967296 : Int) ^ i * (lv M + 4294967296 ^ m.length * k) = 4294967296 ^ i * (lv (P.drop i) + q * lv m) := by rw [hv]
    grind
  · rw [getD_set (by omega), if_neg (by omega), e2 _ (by omega), hf _ (by omega), e1, h.zero _ (by omega)]
end NC
end Go.Proofs.YtpmjeipdldnnbaaDoor

/-
  Package nat: Sub, Mul.
-/
namespace Go.Proofs.YtpmjeipdldnnbaaDoor
set_option linter.unusedVariables false
set_option linter.unusedSimpArgs false
open Go.RowKit
set_option linter.unusedVariables false
namespace NC
open L
open Z (Nz Tz cmpv)
def RetRow0 (w : World) (g n c : Nat) (z : Int) (e : Ending) (w' : World) : Prop := ∃ M, e = .returned (.tuple #[]) ∧ w.grownBy w' (some g) ∧ Hid (Sl .u32 w' (.slice (some ⟨g, 0, none⟩) n c) M ∧ M.length = n ∧ Lim M ∧ lv M = z)
theorem subFrom_head (B g c : Nat) (l m : List Int) (vb : Value) (w : World) (hH : Head w B g c l) (hY : SlA .u32 w vb m g) (Ll : Lim l) (Lm : Lim m) (nm : Nz m) (hle : lv m ≤ lv l) (hN : l.length ≤ 1000000000) :
    Calls Tryd.prog 113 #[.slice (some ⟨g, 0, none⟩) l.length c, vb] w (RetRow0 w g l.length c (lv l - lv m)) := by
  obtain ⟨hB, hc, cs, hb, hw⟩ := hH
  have hlen : m.length ≤ l.length := by
    rcases Nat.lt_or_ge l.length m.length with h | h
    · have := lv_len Ll Lm nm h; omega
    · exact h
  refine (subFrom_c g 0 l.length c cs l m vb w hb hw rfl hY Ll Lm hlen hN hc hle).mono fun e w' h => ?_
  obtain ⟨M, rfl, hE, hL, hv⟩ := h
  have hS := hE.sl c hc
  rw [hE.len] at hS
  exact ⟨M, rfl, hE.grown, hS, hE.len, hL, hv.out⟩
theorem Sub_c (u v : Value) (l m : List Int) (w : World) (hs : Sl .u32 w u l) (ht : Sl .u32 w v m) (hl : l.length ≤ 9223372036854775807) (hm : m.length ≤ 9223372036854775807) (Ll : Lim l) (Lm : Lim m) :
    Calls Tryd.prog 71 #[u, v] w (RetL w (errSub l m) (if errSub l m = 0 then lv l - lv m else 0)) := by
  have C := Lib.hid (checkBoth_c u v l m w hs ht hl hm)
  by_cases h : chk2 l m = 0
  · have h1 := (chk2_ok.1 h)
    have h2 := chk_ok.1 h1.1
    have h3 := chk_ok.1 h1.2
    have P := Lib.hid (compare_c u v l m w hs ht Ll Lm h2.2 h3.2 (by omega) (by omega))
    have HC := Lib.hid (clone_c u l)
    obtain ⟨A, c, rfl, hc⟩ := hs.form
    obtain ⟨B, d, rfl, hd⟩ := ht.form
    rw [h] at C
    by_cases hlt : lv l < lv m
    · have he : errSub l m = 1 := by unfold errSub; rw [if_pos h, if_pos hlt]
      rw [he, if_neg (by decide)]
      rw [Z.cmpv_lt hlt] at P
      clear hs ht hl hm Ll Lm h h1 h2 h3 hlt he hc hd HC
      go_enter Tryd.func71, Tryd.ntmps71
      go_wp2_with (first | (go_at_call 96; (with_reducible refine (C.out).mono ?_); rintro e w' ⟨rfl, rfl⟩) | (go_at_call 97; (with_reducible refine (P.out).mono ?_); rintro e w2 ⟨rfl, k, rfl⟩))
      go_ret2
      exact RetL.err ⟨rfl, rfl, rfl, Nat.le_refl _, fun _ _ => rfl⟩
    · have he : errSub l m = 0 := by unfold errSub; rw [if_pos h, if_neg hlt]
      rw [he, if_pos rfl]
      have q0 := Z.cmpv_ge0 hlt
      generalize cmpv (lv l) (lv m) = q at P q0
      have e1 : decide (q < 0) = false := by simp; omega
      have HS := Lib.hid hs
      have HT := Lib.hid ht
      have LL := Lib.hid Ll
      have LM := Lib.hid Lm
      have HLE : Hid (lv m ≤ lv l) := Int.not_lt.1 hlt
      have H2 := Lib.hid h2
      have H3 := Lib.hid h3
      obtain ⟨x, ex⟩ : ∃ x, x = l.length := ⟨_, rfl⟩
      obtain ⟨y, ey⟩ : ∃ y, y = m.length := ⟨_, rfl⟩
      rw [← ex] at hc C HS P HC ⊢
      rw [← ey] at hd C HT P ⊢
      have EX := Lib.hid ex
      clear hs ht hl hm Ll Lm h h1 h2 h3 hlt he q0 ex ey
      go_enter Tryd.func71, Tryd.ntmps71
      go_wp2_with (first | (go_at_call 96; (with_reducible refine (C.out).mono ?_); rintro e w' ⟨rfl, rfl⟩) | (go_at_call 97; (with_reducible refine (P.out).mono ?_); rintro e w2 ⟨rfl, k, rfl⟩) | (go_at_call 98; (with_reducible refine (HC.out (w.drewN k) (HS.out.drewN k) (by have := H2.out.1; have := EX.out; omega)).mono ?_); rintro e w3 ⟨g, c3, rfl, hH3, hB3⟩ ; have hg3 : w.heap.size ≤ g := hH3.out.1 ; have HT3 := SlA.old (HT.out.drewN k) hB3 hg3) | (go_at_call 113; (with_reducible refine (subFrom_head _ g c3 l m _ w3 hH3.out HT3 LL.out LM.out H3.out.2 HLE.out (by have := H2.out.1; omega)).mono ?_); rintro e w4 ⟨M, rfl, hg4, h4⟩) | (go_at_call 102; (with_reducible refine (trim_c _ _ _ M _ h4.out.1 (by have := h4.out.2.1; have := H2.out.1; omega)).mono ?_); rintro e w5 ⟨m5, rfl, hm5, hz5, hv5, rfl⟩))
      go_ret2
      have hB0 : Below w.heap.size w w3 := ⟨hB3.os, hB3.tape, hB3.output, hB3.size, hB3.block⟩
      exact ⟨_, _, _, rfl, trimmed (L := M) (by rw [h4.out.2.1]; exact h4.out.1) hm5 h4.out.2.2.1 hz5 hv5 h4.out.2.2.2, hB0.grown hg4 hB0.size fun k hk => by injection hk with hk; have := hH3.out.1; exact hk ▸ this⟩
  · have he : errSub l m = chk2 l m := by unfold errSub; rw [if_neg h]
    obtain ⟨r, hr⟩ : ∃ r, r = chk2 l m := ⟨_, rfl⟩
    rw [he]
    rw [← hr] at C h ⊢
    have e1 : (r != 0) = true := by simp [h]
    rw [if_neg h]
    clear hs ht hl hm Ll Lm hr h he
    go_enter Tryd.func71, Tryd.ntmps71
    go_wp2_with (first | (go_at_call 96; (with_reducible refine (C.out).mono ?_); rintro e w' ⟨rfl, rfl⟩))
    go_ret2
    exact RetL.err (Below.refl _ _)
theorem Mul_c (u v : Value) (l m : List Int) (w : World) (hs : Sl .u32 w u l) (ht : Sl .u32 w v m) (hl : l.length ≤ 9223372036854775807) (hm : m.length ≤ 9223372036854775807) (Ll : Lim l) (Lm : Lim m) :
    Calls Tryd.prog 56 #[u, v] w (RetL w (chk2 l m) (if chk2 l m = 0 then lv l * lv m else 0)) := by
  have C := Lib.hid (checkBoth_c u v l m w hs ht hl hm)
  obtain ⟨r, hr⟩ : ∃ r, r = chk2 l m := ⟨_, rfl⟩
  rw [← hr] at C ⊢
  by_cases h : r = 0
  · have h1 := (chk2_ok.1 (hr.symm.trans h))
    have h2 := chk_ok.1 h1.1
    have h3 := chk_ok.1 h1.2
    rw [if_pos h]
    obtain ⟨A, c, rfl, hc⟩ := hs.form
    obtain ⟨B, d, rfl, hd⟩ := ht.form
    have HS := Lib.hid hs
    have HT := Lib.hid ht
    have LL := Lib.hid Ll
    have LM := Lib.hid Lm
    obtain ⟨x, ex⟩ : ∃ x, x = l.length := ⟨_, rfl⟩
    obtain ⟨y, ey⟩ : ∃ y, y = m.length := ⟨_, rfl⟩
    rw [← ex] at hc h2 C HS ⊢
    rw [← ey] at hd h3 C HT ⊢
    have x4 : x ≤ 400 := h2.1
    have y4 : y ≤ 400 := h3.1
    have hmk := run_make_row' (P := Tryd.prog) 33 89 (.int .u32 0) 4 Tryd.underlying33 (by kernel_rfl) rfl .i64 .i64 (x + y) (by omega) (by omega)
    rw [show ((x + y : Nat) : Int) = (x : Int) + y by omega] at hmk
    have EX := Lib.hid ex
    have EY := Lib.hid ey
    clear hs ht hl hm Ll Lm hr h1 h2 h3 ex ey
    subst h
    go_enter Tryd.func56, Tryd.ntmps56
    go_wp2_with (first | (go_at_call 96; (with_reducible refine (C.out).mono ?_); rintro e w' ⟨rfl, rfl⟩))
    clear hmk
    go_loopw [24] (fun iv wr => ∃ (i : Nat) (P : List Int), iv = .int .i64 i ∧ i ≤ x ∧ Hid (MulN l m (x + y) i P) ∧ Hid (Row .u32 89 wr w.heap.size P) ∧ Hid (Below w.heap.size w wr)) (fun iv _ => x - (intOf iv).toNat)
    case atStart => exact ⟨0, _, rfl, by omega, MulN.start _ _ _, Row.new' _ _ _ _ rfl, (Below.refl _ _).alloc (Nat.le_refl _) _⟩
    case round =>
      obtain ⟨i, P, rfl, hi, hI, hR, hB⟩ := hrel
      by_cases hix : i < x
      · obtain ⟨adx, cx, exx, _, _, hcx⟩ := (HS.out.below hB.out).at_ i (by rw [← EX.out]; exact hix)
        injection exx with ex1 ex2 ex3
        subst ex1
        obtain ⟨q, hq⟩ : ∃ q, l.getD i 0 = q := ⟨_, rfl⟩
        have bq := LL.out.at_ i
        rw [hq] at hcx bq
        have HQ := Lib.hid hq
        clear hq ex2 ex3
        have hpl := hI.out.len
        have hfr := hR.out.frozen (i + y)
        have AT := addTimes_c w.heap.size i (x + y - i) (x + y - i) _ (P.drop i) m _ q wr hR.out (by have := Wn.part P i (P.length - i); rwa [List.take_of_length_le (by simp)] at this) (by simp [hpl]) (SlA.old HT.out hB.out (Nat.le_refl _)) (hI.out.lim.drop i) LM.out (by rw [← EY.out]; omega) (by omega) (Nat.le_refl _) bq
        have AT := Lib.hid AT
        have HPL := Lib.hid hpl
        clear hpl
        go_wp2_with (first | (go_at_call 101; (with_reducible refine (AT.out).mono ?_); rintro e w2 ⟨M, k, rfl, hE, hLM, k0, k1, hv⟩ ; have fr2 := hE.frozen (i + y) ; have cl2 := hE.cell y (by omega) ; have HE := Lib.hid hE ; have HLM := Lib.hid hLM ; clear hE hLM))
        have hR2 := HE.out.row (by rw [HPL.out]; omega)
        have hcut : (P.drop (i + (x + y - i))) = [] := List.drop_of_length_le (by rw [HPL.out]; omega)
        rw [hcut, List.append_nil] at hR2
        have hI2 := hI.out.step (by rw [← EY.out]; omega) HQ.out HE.out.len HLM.out k0 k1 hv.out.1 hv.out.2
        rw [← EY.out] at hI2
        exact ⟨⟨i + 1, _, by simp, by omega, hI2, hR2.set_ _ _, (HE.out.below hB.out (Nat.le_refl _) hB.out.size).setCell (Nat.le_refl _) _⟩, by simp only [intOf]; omega⟩
      · obtain rfl : x = i := by omega
        have hpl := hI.out.len
        have hS := hR.out.sl (x + y) (by omega)
        have T := trim_c (some ⟨w.heap.size, 0, none⟩) (x + y) (x + y) P wr (by rw [hpl] at hS; exact hS) (by omega)
        have T := Lib.hid T
        have HS2 := Lib.hid hS
        have hv : lv P = lv l * lv m := by rw [hI.out.val, List.take_of_length_le (by rw [← EX.out]; exact Nat.le_refl _)]
        have HV := Lib.hid hv
        clear hpl hS hv
        go_wp2_with (first | (go_at_call 102; (with_reducible refine (T.out).mono ?_); rintro e w5 ⟨m5, rfl, hm5, hz5, hv5, rfl⟩))
        go_ret2
        exact ⟨_, _, _, rfl, trimmed HS2.out hm5 hI.out.lim hz5 hv5 HV.out, hB.out⟩
  · have e1 : (r != 0) = true := by simp [h]
    rw [if_neg h]
    clear hs ht hl hm Ll Lm hr h
    go_enter Tryd.func56, Tryd.ntmps56
    go_wp2_with (first | (go_at_call 96; (with_reducible refine (C.out).mono ?_); rintro e w' ⟨rfl, rfl⟩))
    go_ret2
    exact RetL.err (Below.refl _ _)
end NC
end Go.Proofs.YtpmjeipdldnnbaaDoor

/-
  Plain mathematics: limbs shifted up and down.
-/
namespace Go.Proofs.YtpmjeipdldnnbaaDoor.L
set_option linter.unusedVariables false
set_option linter.unusedSimpArgs false
open Z (Nz Tz cmpv)
theorem two_pos (r : Nat) : (0 : Int) < 2 ^ r := Int.pow_pos (by decide)
theorem two_split {r : Nat} (hr : r ≤ 32) : ∃ p' : Int, 0 < p' ∧ 2 ^ r * p' = 4294967296 :=
  ⟨2 ^ (32 - r), two_pos _, by rw [← Int.pow_add, show r + (32 - r) = 32 by omega]; decide⟩
theorem sh_low {q : Int} {r : Nat} (hr : r ≤ 32) (h0 : 0 ≤ q) (h1 : q < 4294967296) :
    0 ≤ (q * 2 ^ r) % 4294967296 ∧ (q * 2 ^ r) % 4294967296 + 2 ^ r ≤ 4294967296 ∧ (q * 2 ^ r) % 4294967296 % 2 ^ r = 0 ∧ 0 ≤ (q * 2 ^ r) / 4294967296 ∧ (q * 2 ^ r) / 4294967296 < 2 ^ r := by
  obtain ⟨p', hp', e⟩ := two_split hr
  have hp := two_pos r
  have e1 : (q * 2 ^ r) % 4294967296 = 2 ^ r * (q % p') := by
    conv => lhs; rw [← e]
    rw [Int.mul_comm q, Int.mul_emod_mul_of_pos _ _ hp]
  have h2 := Int.emod_nonneg q (show p' ≠ 0 by omega)
  have h3 := Int.emod_lt_of_pos q hp'
  have h4 : 2 ^ r * (q % p' + 1) ≤ 2 ^ r * p' := Int.mul_le_mul_of_nonneg_left (by omega) (Int.le_of_lt hp)
  have h5 : 0 ≤ 2 ^ r * (q % p') := Int.mul_nonneg (Int.le_of_lt hp) h2
  refine ⟨by omega, by rw [e1]; grind, by rw [e1]; exact Int.mul_emod_right _ _, Int.ediv_nonneg (Int.mul_nonneg h0 (Int.le_of_lt hp)) (by decide), ?_⟩
  rw [Int.ediv_lt_iff_lt_mul (by decide), Int.mul_comm]
  exact Int.mul_lt_mul_of_pos_left h1 hp
/-- shifting up under way: so many limbs of l have been put s limbs and r bits higher -/
structure ShU (l : List Int) (s r N i : Nat) (P : List Int) : Prop where
  len : P.length = N
  lim : Lim P
  val : lv P = 4294967296 ^ s * (2 ^ r * lv (l.take i))
  low : P.getD (s + i) 0 < 2 ^ r
  zero : ∀ j, s + i < j → P.getD j 0 = 0
theorem ShU.start (l : List Int) (s r N : Nat) : ShU l s r N 0 (List.replicate N 0) :=
  ⟨by simp, Lim.rep _, by rw [lv_rep]; simp [lv], by rw [Z.getD_rep]; exact two_pos r, fun j _ => Z.getD_rep _ _⟩
theorem ShU.or_ {l P : List Int} {s r N i : Nat} {q : Int} (h : ShU l s r N i P) (hr : r ≤ 32) (h0 : 0 ≤ q) (h1 : q < 4294967296) :
    bits .or .u32 (P.getD (s + i) 0) ((q * 2 ^ r) % 4294967296) = P.getD (s + i) 0 + (q * 2 ^ r) % 4294967296 := by
  obtain ⟨a1, a2, a3, _⟩ := sh_low hr h0 h1
  have := two_pos r
  exact or_low _ _ r hr (h.lim.at_ _).1 h.low a1 a3 (by omega)
theorem ShU.step {l P : List Int} {s r N i : Nat} {q : Int} (h : ShU l s r N i P) (hr : r ≤ 32) (hi : s + i + 1 < N) (hq : l.getD i 0 = q) (h0 : 0 ≤ q) (h1 : q < 4294967296) :
    ShU l s r N (i + 1) ((P.set (s + i) (P.getD (s + i) 0 + (q * 2 ^ r) % 4294967296)).set (s + i + 1) ((q * 2 ^ r) / 4294967296)) := by
  obtain ⟨a1, a2, a3, a4, a5⟩ := sh_low hr h0 h1
  have b := h.lim.at_ (s + i)
  have hlow := h.low
  have h32 : (2 : Int) ^ r ≤ 4294967296 := by omega
  have hl1 : (P.set (s + i) (P.getD (s + i) 0 + (q * 2 ^ r) % 4294967296)).length = N := by simp [h.len]
  have hP : s + i < P.length := by rw [h.len]; omega
  refine ⟨by simp [h.len], (h.lim.set _ (by omega) (by omega)).set _ a4 (by omega), ?_, ?_, fun j hj => ?_⟩
  · rw [lv_set _ _ _ (by omega), lv_set _ _ _ hP, getD_set hP, if_neg (by omega), h.zero (s + i + 1) (by omega), lv_take_succ, hq, h.val]
    have e := Int.emod_add_mul_ediv (q * 2 ^ r) 4294967296
    have e2 : (4294967296 : Int) ^ (s + i) * ((q * 2 ^ r) % 4294967296 + 4294967296 * ((q * 2 ^ r) / 4294967296)) = 4294967296 ^ (s + i) * (q * 2 ^ r) := by rw [e]
    rw [Int.pow_succ]
    rw [Int.pow_add] at e2 ⊢
    grind
  · rw [getD_set (by omega), if_pos (by omega)]; exact a5
  · rw [getD_set (by omega), if_neg (by omega), getD_set hP, if_neg (by omega)]; exact h.zero _ (by omega)
/-- shifting down under way -/
structure ShD (l : List Int) (s r N i : Nat) (P : List Int) : Prop where
  len : P.length = N
  lim : Lim P
  val : lv (P.take i) + 4294967296 ^ i * (lv (l.drop (s + i)) / 2 ^ r) = lv (l.drop s) / 2 ^ r
theorem ShD.start (l : List Int) (s r N : Nat) : ShD l s r N 0 (List.replicate N 0) := ⟨by simp, Lim.rep _, by simp [lv]⟩
theorem down_limb {r : Nat} (hr : r ≤ 32) {a a' D : Int} (h0 : 0 ≤ a) (h1 : a < 4294967296) (h2 : 0 ≤ a') (h3 : a' < 4294967296) :
    (a + 4294967296 * (a' + 4294967296 * D)) / 2 ^ r = ((a + 4294967296 * a') / 2 ^ r) % 4294967296 + 4294967296 * ((a' + 4294967296 * D) / 2 ^ r) := by
  obtain ⟨p', hp', e⟩ := two_split hr
  have hp := two_pos r
  generalize (2 : Int) ^ r = p at *
  have hpn : p ≠ 0 := by omega
  have e1 : (a + 4294967296 * a') / p = a / p + p' * a' := by
    rw [← e, Int.mul_assoc, Int.add_mul_ediv_left _ _ hpn]
  have e2 : (a + 4294967296 * (a' + 4294967296 * D)) / p = a / p + p' * (a' + 4294967296 * D) := by
    conv => lhs; rw [← e, Int.mul_assoc, Int.add_mul_ediv_left _ _ hpn]
    rw [e]
  have e3 : (a' + 4294967296 * D) / p = a' / p + p' * D := by
    rw [← e, Int.mul_assoc, Int.add_mul_ediv_left _ _ hpn]
  have e4 := Int.emod_add_mul_ediv a' p
  have v0 := Int.emod_nonneg a' hpn
  have v1 := Int.emod_lt_of_pos a' hp
  have w0 : 0 ≤ a / p := Int.ediv_nonneg h0 (Int.le_of_lt hp)
  have w1 : a / p < p' := by rw [Int.ediv_lt_iff_lt_mul hp, Int.mul_comm, e]; exact h1
  have e5 : (a + 4294967296 * a') / p % 4294967296 = a / p + p' * (a' % p) := by
    rw [e1]
    have : a / p + p' * a' = (a / p + p' * (a' % p)) + 4294967296 * (a' / p) := by rw [← e]; grind
    rw [this, Int.add_mul_emod_self_left]
    refine Int.emod_eq_of_lt (Int.add_nonneg w0 (Int.mul_nonneg (Int.le_of_lt hp') v0)) ?_
    have : p' * (a' % p + 1) ≤ p' * p := Int.mul_le_mul_of_nonneg_left (by omega) (Int.le_of_lt hp')
    rw [← e]; grind
  rw [e5, e2, e3, ← e]
  grind
theorem ShD.step {l P : List Int} {s r N i : Nat} {a a' : Int} (h : ShD l s r N i P) (hl : Lim l) (hr : r ≤ 32) (hi : i < N) (hN : N = l.length - s) (ha : l.getD (s + i) 0 = a) (ha' : l.getD (s + i + 1) 0 = a') :
    ShD l s r N (i + 1) (P.set i (((a + 4294967296 * a') / 2 ^ r) % 4294967296)) := by
  have b := hl.at_ (s + i)
  have b' := hl.at_ (s + i + 1)
  rw [ha] at b
  rw [ha'] at b'
  refine ⟨by simp [h.len], h.lim.set _ (Int.emod_nonneg _ (by decide)) (Int.emod_lt_of_pos _ (by decide)), ?_⟩
  rw [lv_take_succ, getD_set (by rw [h.len]; exact hi), if_pos rfl, List.take_set_of_le (Nat.le_refl _), ← h.val, Int.pow_succ]
  have e1 := lv_drop (L := l) (s + i) (by omega)
  have e2 : lv (l.drop (s + i + 1)) = a' + 4294967296 * lv (l.drop (s + i + 1 + 1)) := by
    rcases Nat.lt_or_ge (s + i + 1) l.length with h | h
    · rw [lv_drop _ h, ha']
    · rw [List.drop_of_length_le h, List.drop_of_length_le (by omega), ← ha', Z.getD_out h]; rfl
  rw [ha, e2] at e1
  rw [show s + (i + 1) = s + i + 1 by omega, e2, e1, down_limb hr b.1 b.2 b'.1 b'.2]
  grind
theorem lv_div (l : List Int) (hl : Lim l) (s : Nat) (hs : s ≤ l.length) : lv (l.drop s) = lv l / 4294967296 ^ s := by
  have h := lv_cut l s hs
  have h1 := lv_lt (hl.take s)
  rw [List.length_take, Nat.min_eq_left hs] at h1
  have h2 := lv_nonneg (hl.take s)
  rw [h, Int.add_mul_ediv_left _ _ (by have := pow_pos s; omega), Int.ediv_eq_zero_of_lt h2 h1]; omega
theorem pow_n (n : Nat) : (2 : Int) ^ n = 4294967296 ^ (n / 32) * 2 ^ (n % 32) := by
  rw [pow_two, ← Int.pow_add, show 32 * (n / 32) + n % 32 = n by omega]
theorem ShU.done {l P : List Int} {n N : Nat} (h : ShU l (n / 32) (n % 32) N l.length P) : lv P = lv l * 2 ^ n := by
  rw [h.val, List.take_length, pow_n n]; grind
theorem ShD.done {l P : List Int} {n N : Nat} (hl : Lim l) (hN : N = l.length - n / 32) (hs : n / 32 ≤ l.length) (h : ShD l (n / 32) (n % 32) N N P) : lv P = lv l / 2 ^ n := by
  have := h.val
  rw [lv_take_all (by rw [h.len]; exact Nat.le_refl _), List.drop_of_length_le (by omega)] at this
  rw [pow_n, ← Int.ediv_ediv_of_nonneg (Int.le_of_lt (pow_pos _)), ← lv_div l hl _ hs, ← this]
  simp [lv]
theorem down_none {l : List Int} (hl : Lim l) {n : Nat} (h : l.length ≤ n / 32) : lv l / 2 ^ n = 0 := by
  refine Int.ediv_eq_zero_of_lt (lv_nonneg hl) (Int.lt_of_lt_of_le (lv_lt hl) ?_)
  rw [pow_n]
  have h1 := pow_mono h
  have h2 : (4294967296 : Int) ^ (n / 32) * 1 ≤ 4294967296 ^ (n / 32) * 2 ^ (n % 32) := Int.mul_le_mul_of_nonneg_left (by have := two_pos (n % 32); omega) (Int.le_of_lt (pow_pos _))
  omega
end Go.Proofs.YtpmjeipdldnnbaaDoor.L

/-
  Package nat: shiftUp, shiftDown.
-/
namespace Go.Proofs.YtpmjeipdldnnbaaDoor
set_option linter.unusedVariables false
set_option linter.unusedSimpArgs false
open Go.RowKit
set_option linter.unusedVariables false
namespace NC
open L
open Z (Nz Tz cmpv)
theorem shiftUp_c (v : Value) (l : List Int) (n : Nat) (w : World) (hs : Sl .u32 w v l) (Ll : Lim l) (hl : l.length ≤ 1000000) (hn : n ≤ 1000000) :
    Calls Tryd.prog 95 #[v, .int .i64 n] w (RetV w (lv l * 2 ^ n)) := by
  obtain ⟨A, c, rfl, hc⟩ := hs.form
  have HS := Lib.hid hs
  have LL := Lib.hid Ll
  obtain ⟨x, ex⟩ : ∃ x, x = l.length := ⟨_, rfl⟩
  obtain ⟨s, es⟩ : ∃ s, s = n / 32 := ⟨_, rfl⟩
  obtain ⟨r, er⟩ : ∃ r, r = n % 32 := ⟨_, rfl⟩
  have hs1 : ((n : Int) / 32) = (s : Int) := by omega
  have hr1 : ((n : Int) % 32) = (r : Int) := by omega
  have hr2 : r < 32 := by omega
  have hs2 : s ≤ 100000 := by omega
  rw [← ex] at hc hl HS ⊢
  have EX := Lib.hid ex
  have hmk := run_make_row' (P := Tryd.prog) 33 89 (.int .u32 0) 4 Tryd.underlying33 (by kernel_rfl) rfl .i64 .i64 (s + x + 1) (by omega) (by omega)
  rw [show ((s + x + 1 : Nat) : Int) = (s : Int) + x + 1 by omega] at hmk
  have hD : ∀ N P, ShU l s r N x P → lv P = lv l * 2 ^ n := fun N P h => ShU.done (N := N) (by rw [← es, ← er, ← ex]; exact h)
  have HD := Lib.hid hD
  generalize lv l * 2 ^ n = zz at HD ⊢
  clear hs Ll ex es er hD
  go_enter Tryd.func95, Tryd.ntmps95
  go_wp2
  clear hmk
  go_loopw [23] (fun iv wr => ∃ (i : Nat) (P : List Int), iv = .int .i64 i ∧ i ≤ x ∧ Hid (ShU l s r (s + x + 1) i P) ∧ Hid (Row .u32 89 wr w.heap.size P) ∧ Hid (Below w.heap.size w wr)) (fun iv _ => x - (intOf iv).toNat)
  case atStart => exact ⟨0, _, rfl, by omega, ShU.start _ _ _ _, Row.new' _ _ _ _ rfl, (Below.refl _ _).alloc (Nat.le_refl _) _⟩
  case round =>
    obtain ⟨i, P, rfl, hi, hI, hR, hB⟩ := hrel
    by_cases hix : i < x
    · obtain ⟨adx, cx, exx, _, _, hcx⟩ := (HS.out.below hB.out).at_ i (by rw [← EX.out]; exact hix)
      injection exx with ex1 ex2 ex3
      subst ex1
      obtain ⟨q, hq⟩ : ∃ q, l.getD i 0 = q := ⟨_, rfl⟩
      have bq := LL.out.at_ i
      rw [hq] at hcx bq
      have hpl := hI.out.len
      have hc1 := hR.out.at_ (s + i) (by omega)
      have hc2 := hR.out.at_ (s + i + 1) (by omega)
      have hf1 := hR.out.frozen (s + i)
      have hf2 := hR.out.frozen (s + i + 1)
      have hor := hI.out.or_ (show r ≤ 32 by omega) bq.1 bq.2
      have hst := hI.out.step (show r ≤ 32 by omega) (by omega) hq bq.1 bq.2
      obtain ⟨a1, a2, a3, a4, a5⟩ := sh_low (show r ≤ 32 by omega) bq.1 bq.2
      have tp := two_pos r
      obtain ⟨p, hp⟩ : ∃ p, P.getD (s + i) 0 = p := ⟨_, rfl⟩
      have bp := hI.out.lim.at_ (s + i)
      have t0 : 0 ≤ q * 2 ^ r := Int.mul_nonneg bq.1 (by omega)
      have t1 : q * 2 ^ r < 18446744073709551616 := by omega
      have hwr : IntKind.u64.wrap (q * 2 ^ r) = q * 2 ^ r := Go.u64_wrap_id _ t0 t1
      rw [hp] at hc1 hor hst bp
      obtain ⟨t, ht⟩ : ∃ t, q * 2 ^ r = t := ⟨_, rfl⟩
      rw [ht] at hwr hor hst a1 a2 a3 a4 a5 t0 t1
      rw [← ht] at hwr
      have hwr2 : IntKind.u64.wrap (q * 2 ^ r) = t := by rw [hwr, ht]
      have HST := Lib.hid hst
      have t2 : 2 ^ r ≤ (4294967296 : Int) := by omega
      have t3 : t / 4294967296 < 4294967296 := by omega
      have t4 : t / 4294967296 % 4294967296 = t / 4294967296 := by omega
      clear ex2 ex3 hst hwr hp ht a1 a2 a3 tp hq a4 a5 t2
      go_wp2
      exact ⟨⟨i + 1, _, by simp, by omega, HST.out, ((hR.out.set_ (s + i) _).set_ (s + i + 1) _), ((hB.out.setCell (Nat.le_refl _) _).setCell (Nat.le_refl _) _)⟩, by simp only [intOf]; omega⟩
    · obtain rfl : x = i := by omega
      have hpl := hI.out.len
      have hS := hR.out.sl (s + x + 1) (by omega)
      have T := trim_c (some ⟨w.heap.size, 0, none⟩) (s + x + 1) (s + x + 1) P wr (by rw [hpl] at hS; exact hS) (by omega)
      have T := Lib.hid T
      have HS2 := Lib.hid hS
      have HV := Lib.hid (HD.out _ _ hI.out)
      clear hpl hS
      go_wp2_with (first | (go_at_call 102; (with_reducible refine (T.out).mono ?_); rintro e w5 ⟨m5, rfl, hm5, hz5, hv5, rfl⟩))
      go_ret
      exact ⟨_, _, _, rfl, trimmed HS2.out hm5 hI.out.lim hz5 hv5 HV.out, hB.out⟩
end NC
end Go.Proofs.YtpmjeipdldnnbaaDoor

/-
  Package nat: shiftDown.
-/
namespace Go.Proofs.YtpmjeipdldnnbaaDoor
set_option linter.unusedVariables false
set_option linter.unusedSimpArgs false
open Go.RowKit
set_option linter.unusedVariables false
namespace NC
open L
open Z (Nz Tz cmpv)
theorem shiftDown_c (v : Value) (l : List Int) (n : Nat) (w : World) (hs : Sl .u32 w v l) (Ll : Lim l) (hl : l.length ≤ 1000000) (hn : n ≤ 1000000) :
    Calls Tryd.prog 93 #[v, .int .i64 n] w (RetV w (lv l / 2 ^ n)) := by
  obtain ⟨A, c, rfl, hc⟩ := hs.form
  have HS := Lib.hid hs
  have LL := Lib.hid Ll
  obtain ⟨x, ex⟩ : ∃ x, x = l.length := ⟨_, rfl⟩
  obtain ⟨s, es⟩ : ∃ s, s = n / 32 := ⟨_, rfl⟩
  obtain ⟨r, er⟩ : ∃ r, r = n % 32 := ⟨_, rfl⟩
  have hs1 : ((n : Int) / 32) = (s : Int) := by omega
  have hr1 : ((n : Int) % 32) = (r : Int) := by omega
  have hr2 : r < 32 := by omega
  have hs2 : s ≤ 100000 := by omega
  rw [← ex] at hc hl HS ⊢
  by_cases hxs : x ≤ s
  · have hz : lv l / 2 ^ n = 0 := down_none Ll (by rw [← ex, ← es]; exact hxs)
    rw [hz]
    have e1 : decide ((s : Int) ≥ (x : Int)) = true := by simp; omega
    clear hs Ll es er hz HS LL
    clear ex
    go_enter Tryd.func93, Tryd.ntmps93
    go_wp2
    go_ret
    exact ⟨_, _, _, rfl, NV.nil _ _ _, Below.refl _ _⟩
  · have EX := Lib.hid ex
    obtain ⟨N, eN⟩ : ∃ N, N = x - s := ⟨_, rfl⟩
    have hmk := run_make_row' (P := Tryd.prog) 33 89 (.int .u32 0) 4 Tryd.underlying33 (by kernel_rfl) rfl .i64 .i64 N (by omega) (by omega)
    rw [show ((N : Nat) : Int) = (x : Int) - s by omega] at hmk
    have hD : ∀ P, ShD l s r N N P → lv P = lv l / 2 ^ n := fun P h => ShD.done (N := N) Ll (by rw [← es, ← ex]; exact eN) (by rw [← es, ← ex]; omega) (by rw [← es, ← er]; exact h)
    have HD := Lib.hid hD
    generalize lv l / 2 ^ n = zz at HD ⊢
    have hN1 : s + N = x := by omega
    have HN := Lib.hid eN
    clear hs Ll ex es er hD eN
    go_enter Tryd.func93, Tryd.ntmps93
    go_wp2
    clear hmk
    go_loopw [25] (fun iv wr => ∃ (i : Nat) (P : List Int), iv = .int .i64 i ∧ i ≤ N ∧ Hid (ShD l s r N i P) ∧ Hid (Row .u32 89 wr w.heap.size P) ∧ Hid (Below w.heap.size w wr)) (fun iv _ => N - (intOf iv).toNat)
    case atStart => exact ⟨0, _, rfl, by omega, ShD.start _ _ _ _, Row.new' _ _ _ _ rfl, (Below.refl _ _).alloc (Nat.le_refl _) _⟩
    case round =>
      obtain ⟨i, P, rfl, hi, hI, hR, hB⟩ := hrel
      by_cases hix : i < N
      · obtain ⟨adx, cx, exx, _, _, hcx⟩ := (HS.out.below hB.out).at_ (s + i) (by rw [← EX.out]; omega)
        injection exx with ex1 ex2 ex3
        subst ex1
        obtain ⟨a, ha⟩ : ∃ a, l.getD (s + i) 0 = a := ⟨_, rfl⟩
        have ba := LL.out.at_ (s + i)
        rw [ha] at hcx ba
        have hpl := hI.out.len
        have hc1 := hR.out.at_ i (by omega)
        have hf1 := hR.out.frozen i
        clear ex2 ex3
        by_cases hlast : s + i + 1 < x
        · obtain ⟨ady, cy, eyy, _, _, hcy⟩ := (HS.out.below hB.out).at_ (s + i + 1) (by rw [← EX.out]; omega)
          injection eyy with ey1 ey2 ey3
          injection ey1 with ey1
          subst ey1
          clear ey2 ey3
          obtain ⟨b, hb⟩ : ∃ b, l.getD (s + i + 1) 0 = b := ⟨_, rfl⟩
          have bb := LL.out.at_ (s + i + 1)
          rw [hb] at hcy bb
          have hst := Lib.hid (hI.out.step LL.out (show r ≤ 32 by omega) hix (by rw [← EX.out]; exact HN.out) ha hb)
          have e1 : (s : Int) + i + 1 < x := by omega
          have hcy2 : wr.cell? { block := adx.block, off := adx.off + (s + i + 1) } = some (.int .u32 b) := by have h := hcy; unfold Addr.add at h; rwa [if_neg (by omega)] at h
          have hor : bits .or .u64 a (b * 4294967296) = a + 4294967296 * b := by rw [u64_or32 a (b * 4294967296) ba.1 ba.2 (by omega) (by omega) (by omega)]; omega
          clear ha hb
          go_wp2
          exact ⟨⟨i + 1, _, by simp, by omega, hst.out, hR.out.set_ i _, hB.out.setCell (Nat.le_refl _) _⟩, by simp only [intOf]; omega⟩
        · have hst := hI.out.step LL.out (show r ≤ 32 by omega) hix (by rw [← EX.out]; exact HN.out) ha (Z.getD_out (by rw [← EX.out]; omega))
          rw [Int.mul_zero, Int.add_zero] at hst
          have hst := Lib.hid hst
          have e1 : ¬ (s : Int) + i + 1 < x := by omega
          clear ha
          go_wp2
          exact ⟨⟨i + 1, _, by simp, by omega, hst.out, hR.out.set_ i _, hB.out.setCell (Nat.le_refl _) _⟩, by simp only [intOf]; omega⟩
      · obtain rfl : N = i := by omega
        have hpl := hI.out.len
        have hS := hR.out.sl N (by omega)
        have T := trim_c (some ⟨w.heap.size, 0, none⟩) N N P wr (by rw [hpl] at hS; exact hS) (by omega)
        have T := Lib.hid T
        have HS2 := Lib.hid hS
        have HV := Lib.hid (HD.out _ hI.out)
        clear hpl hS
        go_wp2_with (first | (go_at_call 102; (with_reducible refine (T.out).mono ?_); rintro e w5 ⟨m5, rfl, hm5, hz5, hv5, rfl⟩))
        go_ret
        exact ⟨_, _, _, rfl, trimmed HS2.out hm5 hI.out.lim hz5 hv5 HV.out, hB.out⟩
end NC
end Go.Proofs.YtpmjeipdldnnbaaDoor

/-
  Plain mathematics: long division by limbs.
-/
namespace Go.Proofs.YtpmjeipdldnnbaaDoor.L
set_option linter.unusedVariables false
set_option linter.unusedSimpArgs false
open Z (Nz Tz cmpv)
/-- a guess made of the two highest limbs of the rest and the highest one of the divisor is not too small -/
theorem guess_ok {R D : List Int} {m : Nat} {g q : Int} (hR : Lim R) (hD : Lim D) (hRl : R.length = m + 2) (hDl : D.length = m + 1) (ht : 0 < D.getD m 0) (q0 : 0 ≤ q)
    (hq : q * lv D ≤ lv R) (h32 : q < 4294967296) (hg : g = min ((R.getD (m + 1) 0 * 4294967296 + R.getD m 0) / D.getD m 0) 4294967295) : q ≤ g := by
  have b1 := lv_cut R m (by omega)
  have e1 : lv (R.drop m) = R.getD m 0 + 4294967296 * R.getD (m + 1) 0 := by
    rw [lv_drop _ (by omega), lv_drop _ (by omega), List.drop_of_length_le (by omega)]; simp [lv]
  have c1 := lv_cut D m (by omega)
  have e2 : lv (D.drop m) = D.getD m 0 := by
    rw [lv_drop _ (by omega), List.drop_of_length_le (by omega)]; simp [lv]
  have h1 := lv_lt (hR.take m)
  rw [List.length_take, Nat.min_eq_left (by omega)] at h1
  have h2 := lv_nonneg (hD.take m)
  have hp := pow_pos m
  rw [e1] at b1
  rw [e2] at c1
  obtain ⟨two, htwo⟩ : ∃ t, t = R.getD (m + 1) 0 * 4294967296 + R.getD m 0 := ⟨_, rfl⟩
  rw [← htwo] at hg
  have htwo2 : R.getD m 0 + 4294967296 * R.getD (m + 1) 0 = two := by omega
  rw [htwo2] at b1
  generalize D.getD m 0 = d at *
  have h3 : 4294967296 ^ m * (q * d) < 4294967296 ^ m * (two + 1) := by
    have a1 : q * (4294967296 ^ m * d) ≤ q * lv D := Int.mul_le_mul_of_nonneg_left (by omega) q0
    have a2 : (4294967296 : Int) ^ m * (q * d) = q * (4294967296 ^ m * d) := by grind
    have a3 : (4294967296 : Int) ^ m * (two + 1) = 4294967296 ^ m * two + 4294967296 ^ m := by grind
    omega
  have h4 : q * d < two + 1 := Int.lt_of_mul_lt_mul_left h3 (Int.le_of_lt hp)
  have h5 : q ≤ two / d := by rw [Int.le_ediv_iff_mul_le ht]; omega
  omega
/-- a quotient's limb under way: the guess g, what is left of R, which reads M, and whether it is below 0 -/
structure QI (R D : List Int) (N : Nat) (g : Int) (below : Bool) (M : List Int) : Prop where
  len : M.length = N
  lim : Lim M
  g0 : 0 ≤ g
  g1 : g < 4294967296
  val : lv M = lv R - g * lv D + (if below then 4294967296 ^ N else 0)
  up : ∀ q, 0 ≤ q → q * lv D ≤ lv R → q < 4294967296 → q ≤ g ∨ lv R < (g + 1) * lv D
theorem QI.pos {R D M : List Int} {N : Nat} {g : Int} (h : QI R D N g true M) (hR : Lim R) : 0 < g := by
  have h1 := h.val
  have h2 := lv_lt h.lim
  rw [h.len] at h2
  have h3 := lv_nonneg hR
  have g0 := h.g0
  rcases Int.lt_or_eq_of_le g0 with h4 | h4
  · exact h4
  · rw [← h4] at h1; simp at h1; omega
theorem QI.step {R D M M' : List Int} {N : Nat} {g k : Int} (h : QI R D N g true M) (hR : Lim R) (hD : Lim D) (hM : M'.length = N) (lM : Lim M') (k0 : 0 ≤ k) (k1 : k ≤ 1)
    (hv : lv M' + 4294967296 ^ N * k = lv M + lv D) : QI R D N (g - 1) (k == 0) M' := by
  have h1 := h.val
  have hp := h.pos hR
  have a1 := lv_lt lM
  rw [hM] at a1
  have a2 := lv_lt h.lim
  rw [h.len] at a2
  have a3 := lv_nonneg lM
  have hD0 := lv_nonneg hD
  simp only [if_true] at h1
  have e : (g - 1) * lv D = g * lv D - lv D := by grind
  refine ⟨hM, lM, by omega, by have := h.g1; omega, ?_, fun q q0 hq q1 => ?_⟩
  · rw [e]
    rcases (by omega : k = 0 ∨ k = 1) with rfl | rfl
    · simp at hv ⊢; omega
    · simp at hv ⊢; omega
  · right
    rw [show (g - 1 + 1) * lv D = g * lv D by grind]
    omega
theorem QI.done {R D M : List Int} {N : Nat} {g : Int} (h : QI R D N g false M) (hD : 0 < lv D) (hR : Lim R) (hlt : lv R < 4294967296 * lv D) : g = lv R / lv D ∧ lv M = lv R % lv D := by
  have h1 := h.val
  simp at h1
  have h2 := lv_nonneg h.lim
  have q0 : 0 ≤ lv R / lv D := Int.ediv_nonneg (lv_nonneg hR) (Int.le_of_lt hD)
  have q1 : lv R / lv D < 4294967296 := by rw [Int.ediv_lt_iff_lt_mul hD]; exact hlt
  have e := Int.emod_add_mul_ediv (lv R) (lv D)
  have m0 := Int.emod_nonneg (lv R) (show lv D ≠ 0 by omega)
  have m1 := Int.emod_lt_of_pos (lv R) hD
  have hle : g ≤ lv R / lv D := by rw [Int.le_ediv_iff_mul_le hD]; omega
  have hge : lv R / lv D ≤ g := by
    rcases h.up _ q0 (by rw [Int.mul_comm]; omega) q1 with h3 | h3
    · exact h3
    · have : lv R / lv D < g + 1 := by rw [Int.ediv_lt_iff_lt_mul hD]; exact h3
      omega
  have eg : g = lv R / lv D := by omega
  refine ⟨eg, ?_⟩
  rw [eg] at h1
  rw [h1, Int.mul_comm]; omega
/-- dividing under way: quotient limbs from number i on are found; the rest reads P -/
structure DvI (A D : Int) (n i : Nat) (Q P : List Int) (N : Nat) : Prop where
  lenQ : Q.length = n
  limQ : Lim Q
  lenP : P.length = N
  limP : Lim P
  zero : ∀ j, j < i → Q.getD j 0 = 0
  val : A = lv Q * D + lv P
  lt : lv P < D * 4294967296 ^ i
theorem DvI.step {A D : Int} {n i m N : Nat} {Q P W : List Int} {q : Int} (h : DvI A D n (i + 1) Q P N) (hD : 0 < D) (hDm : D ≤ 4294967296 ^ m) (hi : i < n) (hN : i + m + 1 ≤ N) (hW : W.length = m + 1) (lW : Lim W)
    (hq : q = lv ((P.drop i).take (m + 1)) / D) (hw : lv W = lv ((P.drop i).take (m + 1)) % D) (q0 : 0 ≤ q) (q1 : q < 4294967296) : DvI A D n i (Q.set i q) (P.take i ++ (W ++ P.drop (i + (m + 1)))) N := by
  have hPl := h.lenP
  have e1 := lv_cut P i (by omega)
  have e2 := lv_cut (P.drop i) (m + 1) (by simp; omega)
  have hlow := lv_lt (h.limP.take i)
  rw [List.length_take, Nat.min_eq_left (by omega)] at hlow
  have hlow0 := lv_nonneg (h.limP.take i)
  have hw0 := lv_nonneg ((h.limP.drop i).take (m + 1))
  have hh0 := lv_nonneg ((h.limP.drop i).drop (m + 1))
  have hpi := pow_pos i
  have hpm := pow_pos (m + 1)
  -- the limbs above the window are noughts
  have hlt := h.lt
  have hzero : lv ((P.drop i).drop (m + 1)) = 0 := by
    rcases Int.lt_or_eq_of_le hh0 with h1 | h1
    · exfalso
      have a1 : (4294967296 : Int) ^ (m + 1) * 1 ≤ 4294967296 ^ (m + 1) * lv ((P.drop i).drop (m + 1)) := Int.mul_le_mul_of_nonneg_left (by omega) (Int.le_of_lt hpm)
      have a2 : 4294967296 ^ i * 4294967296 ^ (m + 1) ≤ 4294967296 ^ i * lv (P.drop i) := Int.mul_le_mul_of_nonneg_left (by omega) (Int.le_of_lt hpi)
      have a3 : D * 4294967296 ^ (i + 1) ≤ 4294967296 ^ m * 4294967296 ^ (i + 1) := Int.mul_le_mul_of_nonneg_right hDm (Int.le_of_lt (pow_pos _))
      have a4 : (4294967296 : Int) ^ m * 4294967296 ^ (i + 1) = 4294967296 ^ i * 4294967296 ^ (m + 1) := by rw [Int.pow_succ, Int.pow_succ]; grind
      omega
    · exact h1.symm
  rw [hzero, Int.mul_zero, Int.add_zero] at e2
  have ediv := Int.emod_add_mul_ediv (lv ((P.drop i).take (m + 1))) D
  rw [← hq, ← hw] at ediv
  have hwlt : lv W < D := by rw [hw]; exact Int.emod_lt_of_pos _ hD
  have eP : lv (P.take i ++ (W ++ P.drop (i + (m + 1)))) = lv (P.take i) + 4294967296 ^ i * lv W := by
    rw [lv_append, lv_append, List.length_take, Nat.min_eq_left (by omega), ← List.drop_drop, hzero]; simp
  refine ⟨by simp [h.lenQ], h.limQ.set _ q0 q1, by simp [hW]; omega, (h.limP.take i).app (lW.app (h.limP.drop _)), fun j hj => ?_, ?_, ?_⟩
  · rw [getD_set (by rw [h.lenQ]; exact hi), if_neg (by omega)]; exact h.zero j (by omega)
  · rw [lv_set _ _ _ (by rw [h.lenQ]; exact hi), h.zero i (by omega), eP]
    have hv := h.val
    rw [e1, e2] at hv
    rw [hv, ← ediv]; grind
  · rw [eP]
    have a1 : 4294967296 ^ i * (lv W + 1) ≤ 4294967296 ^ i * D := Int.mul_le_mul_of_nonneg_left (by omega) (Int.le_of_lt hpi)
    grind
theorem DvI.done {A D : Int} {n N : Nat} {Q P : List Int} (h : DvI A D n 0 Q P N) (hD : 0 < D) : lv Q = A / D ∧ lv P = A % D := by
  have h1 := h.val
  have h2 := h.lt
  simp at h2
  have h3 := lv_nonneg h.limP
  have e : A / D = lv Q := by
    rw [h1, Int.add_comm, Int.mul_comm, Int.add_mul_ediv_left _ _ (by omega), Int.ediv_eq_zero_of_lt h3 h2]; omega
  refine ⟨e.symm, ?_⟩
  rw [h1, Int.add_comm, Int.mul_comm, Int.add_mul_emod_self_left, Int.emod_eq_of_lt h3 h2]
/-- a window of a rest that is less than the divisor times 2^32 -/
theorem window_lt {P : List Int} {D : Int} {i m : Nat} (hP : Lim P) (hN : i + m + 1 ≤ P.length) (h : lv P < D * 4294967296 ^ (i + 1)) : lv ((P.drop i).take (m + 1)) < 4294967296 * D := by
  have e1 := lv_cut P i (by omega)
  have e2 := lv_cut (P.drop i) (m + 1) (by simp; omega)
  have hlow0 := lv_nonneg (hP.take i)
  have hh0 := lv_nonneg ((hP.drop i).drop (m + 1))
  have a1 : 0 ≤ 4294967296 ^ (m + 1) * lv ((P.drop i).drop (m + 1)) := Int.mul_nonneg (Int.le_of_lt (pow_pos _)) hh0
  have a2 : 4294967296 ^ i * lv ((P.drop i).take (m + 1)) ≤ 4294967296 ^ i * lv (P.drop i) := Int.mul_le_mul_of_nonneg_left (by omega) (Int.le_of_lt (pow_pos i))
  have a3 : (4294967296 : Int) ^ i * lv ((P.drop i).take (m + 1)) < 4294967296 ^ i * (4294967296 * D) := by
    have : D * 4294967296 ^ (i + 1) = 4294967296 ^ i * (4294967296 * D) := by rw [Int.pow_succ]; grind
    omega
  exact Int.lt_of_mul_lt_mul_left a3 (Int.le_of_lt (pow_pos i))
/-- both shifted: the same quotient, the remainder shifted -/
theorem div_shift (a b : Int) (s : Nat) (hb : 0 < b) : (a * 2 ^ s) / (b * 2 ^ s) = a / b ∧ (a * 2 ^ s) % (b * 2 ^ s) / 2 ^ s = a % b := by
  have hp := two_pos s
  refine ⟨?_, ?_⟩
  · rw [Int.mul_ediv_mul_of_pos_left _ _ hp]
  · rw [Int.mul_comm a, Int.mul_comm b, Int.mul_emod_mul_of_pos _ _ hp, Int.mul_ediv_cancel_left _ (by omega)]
/-- the length of limbs in normal form, by their value -/
theorem len_eq {L : List Int} {n : Nat} (hL : Lim L) (hn : Nz L) (h0 : 4294967296 ^ n ≤ lv L) (h1 : lv L < 4294967296 ^ (n + 1)) : L.length = n + 1 := by
  have a1 := lv_lt hL
  have hlo : n + 1 ≤ L.length := by
    rcases Nat.lt_or_ge n L.length with h | h
    · exact h
    · have := pow_mono h; omega
  have hne : L ≠ [] := by intro h; subst h; simp at hlo
  have a2 := lv_ge hL hn hne
  rcases Nat.lt_or_ge (n + 1) L.length with h | h
  · have := pow_mono (show n + 1 ≤ L.length - 1 by omega); omega
  · omega
end Go.Proofs.YtpmjeipdldnnbaaDoor.L

