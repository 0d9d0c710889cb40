/-
  Texts glued together for a claim: Base Mem ZPure Own Row ZMulP LPure Held App.
-/
import Derived.WalkKit
import Derived.Below
import Derived.Laws.OwnMore
import Derived.Deep.AppendLies
import Derived.Deep.Draws
import Derived.Test.YtelblhgagpkjmaaGreatDoorProg
import Derived.Laws.Rows
import Derived.Maps.AppendAt
import Derived.OwnWalk
import Derived.Deep.OwnRows
import Derived.OrdersHeld
import Derived.Deep.RegionHeld3
import Derived.Deep.Upon
import Derived.Deep.RegionLawGrows
/-
  Small lemmas that the walks and the shells share: bounds out of well-formed integers, results, and a new world that has at most new blocks.
-/
namespace Go.Proofs.YtelblhgagpkjmaaGreatDoor
set_option linter.unusedVariables false
set_option linter.unusedSimpArgs false
open Go.RowKit
theorem ret_int {k : IntKind} {a b : Int} (h : a = b) : Ending.returned (.int k a) = .returned (.int k b) := by rw [h]
theorem ret_bool {a b : Bool} (h : a = b) : Ending.returned (.bool a) = .returned (.bool b) := by rw [h]
theorem wfb_u64 {n : Int} (h : (Lit.int .u64 n).wf = true) : 0 ≤ n ∧ n ≤ 18446744073709551615 := by
  simp only [Lit.wf, Bool.and_eq_true, decide_eq_true_eq] at h
  exact h
end Go.Proofs.YtelblhgagpkjmaaGreatDoor

/-
  Words for memory: a slice of one-cell integers that reads as a list, nil let in; it is kept where the world only grows. (The first block is after the kit's page of words to copy.)
-/
namespace Go.Proofs.YtelblhgagpkjmaaGreatDoor
set_option linter.unusedVariables false
set_option linter.unusedSimpArgs false
open Go.RowKit
set_option linter.unusedVariables false
theorem block_of_add (a : Addr) (n : Nat) : (a.add n).block = a.block := by unfold Addr.add; split <;> rfl
theorem add_of_add (a : Addr) (i j : Nat) : (a.add i).add j = a.add (i + j) := by
  unfold Addr.add
  by_cases hi : i = 0 <;> by_cases hj : j = 0 <;> simp [hi, hj, Nat.add_assoc]

/-- the slice value 's' holds the integers 'L' of kind 'k'; its block lies in the world -/
def Sl (k : IntKind) (w : World) (s : Value) (L : List Int) : Prop :=
  ∃ A c, s = .slice A L.length c ∧ L.length ≤ c ∧ (L = [] ∨ ∃ ad, A = some ad ∧ ad.block < w.heap.size ∧ ∀ (j : Nat) (h : j < L.length), w.cell? (ad.add j) = some (.int k L[j]))
section
variable {k : IntKind} {w w' : World} {s : Value} {L : List Int}
theorem Sl.keep (h : Sl k w s L) (hs : w.heap.size ≤ w'.heap.size) (hk : ∀ p : Addr, p.block < w.heap.size → w'.cell? p = w.cell? p) : Sl k w' s L := by
  obtain ⟨A, c, e, hc, h⟩ := h
  refine ⟨A, c, e, hc, ?_⟩
  rcases h with h | ⟨ad, rfl, hb, hr⟩
  · exact .inl h
  · exact .inr ⟨ad, rfl, by omega, fun j hj => (hk _ (by rw [block_of_add]; exact hb)).trans (hr j hj)⟩
theorem Sl.below (h : Sl k w s L) (hb : Below w.heap.size w w') : Sl k w' s L := h.keep hb.size fun _ hp => hb.cell hp
theorem Sl.drewN (h : Sl k w s L) (n : Nat) : Sl k (w.drewN n) s L := h
theorem Sl.alloc (h : Sl k w s L) (o : Obj) : Sl k (w.alloc o) s L := h.keep (by simp) fun p hp => World.cell?_alloc_lt w o p hp
theorem Sl.nil (k : IntKind) (w : World) (c : Nat) (A : Option Addr) : Sl k w (.slice A 0 c) [] := ⟨A, c, rfl, by simp, .inl rfl⟩
/-- one element's cell -/
theorem Sl.at_ (h : Sl k w s L) (j : Nat) (hj : j < L.length) : ∃ ad c, s = .slice (some ad) L.length c ∧ L.length ≤ c ∧ ad.block < w.heap.size ∧ w.cell? (ad.add j) = some (.int k (L.getD j 0)) := by
  obtain ⟨A, c, e, hc, h⟩ := h
  rcases h with rfl | ⟨ad, rfl, hb, hr⟩
  · simp at hj
  · refine ⟨ad, c, e, hc, hb, ?_⟩
    rw [hr j hj, List.getD_eq_getElem?_getD, List.getElem?_eq_getElem hj]; rfl
/-- the form, for a walk: address, capacity, and each cell -/
theorem Sl.open_ (h : Sl k w s L) : ∃ A c, s = .slice A L.length c ∧ L.length ≤ c ∧ ∀ j, j < L.length → ∃ ad, A = some ad ∧ ad.block < w.heap.size ∧ w.cell? (ad.add j) = some (.int k (L.getD j 0)) := by
  obtain ⟨A, c, e, hc, h⟩ := h
  refine ⟨A, c, e, hc, fun j hj => ?_⟩
  rcases h with rfl | ⟨ad, rfl, hb, hr⟩
  · simp at hj
  · refine ⟨ad, rfl, hb, ?_⟩
    rw [hr j hj, List.getD_eq_getElem?_getD, List.getElem?_eq_getElem hj]; rfl
theorem Sl.take {A : Option Addr} {n c : Nat} (h : Sl k w (.slice A n c) L) (m : Nat) (hm : m ≤ L.length) : Sl k w (.slice A m c) (L.take m) := by
  obtain ⟨A', c', e, hc, h⟩ := h
  injection e with e1 e2 e3
  subst e1 e3
  refine ⟨A, c, by rw [List.length_take, Nat.min_eq_left hm], by rw [List.length_take]; omega, ?_⟩
  rcases h with rfl | ⟨ad, rfl, hb, hr⟩
  · left; simp
  · right
    refine ⟨ad, rfl, hb, fun j hj => ?_⟩
    rw [List.length_take] at hj
    rw [hr j (by omega), List.getElem_take]
/-- a store into a cell that holds no integer of the kind leaves it -/
theorem Sl.setCell (h : Sl k w s L) {p : Addr} {u : Value} (hu : w.cell? p = some u) (hk : ∀ z, u ≠ .int k z) (x : Value) : Sl k (w.setCell p x) s L := by
  obtain ⟨A, c, e, hc, h⟩ := h
  refine ⟨A, c, e, hc, ?_⟩
  rcases h with h | ⟨ad, rfl, hb, hr⟩
  · exact .inl h
  · refine .inr ⟨ad, rfl, by simpa [World.setCell] using hb, fun j hj => ?_⟩
    rw [World.cell?_setCell_other w p (ad.add j) x (fun e => by rw [e, hr j hj] at hu; injection hu with hu; exact hk _ hu.symm)]
    exact hr j hj
end
end Go.Proofs.YtelblhgagpkjmaaGreatDoor

/-
  Plain mathematics: lists of digits by ten thousand, lowest first; their value; noughts at the end.
-/
namespace Go.Proofs.YtelblhgagpkjmaaGreatDoor.Z
set_option linter.unusedVariables false
set_option linter.unusedSimpArgs false
def val : List Int → Int
  | [] => 0
  | d :: r => d + 10000 * val r
def Dig (L : List Int) : Prop := ∀ d ∈ L, 0 ≤ d ∧ d < 10000
def sg (b : Bool) (x : Int) : Int := if b then -x else x
/-- no nought at the end -/
def Nz (L : List Int) : Prop := ∀ h : L ≠ [], L.getLast h ≠ 0
@[irreducible] def big (n : Nat) : Nat := 10000 ^ n
theorem val_append (a b : List Int) : val (a ++ b) = val a + 10000 ^ a.length * val b := by
  induction a with
  | nil => simp [val]
  | cons d r ih => simp only [List.cons_append, val, ih, List.length_cons, Int.pow_succ]; grind
theorem val_nonneg {L : List Int} (h : Dig L) : 0 ≤ val L := by
  induction L with
  | nil => simp [val]
  | cons d r ih =>
    have h1 := h d (by simp)
    have h2 := ih fun x hx => h x (by simp [hx])
    simp only [val]; omega
theorem Dig.take {L : List Int} (h : Dig L) (n : Nat) : Dig (L.take n) := fun d hd => h d (List.mem_of_mem_take hd)
/-- from place k on there are only noughts -/
def Tz (L : List Int) (k : Nat) : Prop := ∀ d ∈ L.drop k, d = 0
theorem Tz_all (L : List Int) : Tz L L.length := by intro d hd; simp at hd
theorem Tz_pred (L : List Int) (k : Nat) (h0 : 0 < k) (hk : k ≤ L.length) (hz : L.getD (k - 1) 0 = 0) (h : Tz L k) : Tz L (k - 1) := by
  intro d hd
  rw [List.drop_eq_getElem_cons (by omega), show k - 1 + 1 = k by omega] at hd
  rcases List.mem_cons.1 hd with rfl | hd
  · rw [List.getD_eq_getElem?_getD, List.getElem?_eq_getElem (by omega)] at hz; exact hz
  · exact h d hd
theorem val_zero {L : List Int} (h : ∀ d ∈ L, d = 0) : val L = 0 := by
  induction L with
  | nil => rfl
  | cons d r ih => simp only [val]; rw [h d (by simp), ih fun x hx => h x (by simp [hx])]; rfl
theorem val_take {L : List Int} {k : Nat} (h : Tz L k) : val (L.take k) = val L := by
  conv => rhs; rw [← List.take_append_drop k L, val_append, val_zero h]
  simp
theorem val_pos {L : List Int} (h : Dig L) (hn : Nz L) (hne : L ≠ []) : 0 < val L := by
  obtain ⟨r, d, rfl⟩ := List.eq_nil_or_concat L |>.resolve_left hne
  have hd := h d (by simp)
  have hd0 : d ≠ 0 := by have := hn hne; simpa using this
  have hr := val_nonneg (L := r) fun x hx => h x (by simp [hx])
  simp only [List.concat_eq_append]
  rw [val_append]
  have hp : (0 : Int) < 10000 ^ r.length := Int.pow_pos (by decide)
  have hd2 : val [d] = d := by simp [val]
  rw [hd2]
  have : 0 < 10000 ^ r.length * d := Int.mul_pos hp (by omega)
  omega
theorem Nz_take {L : List Int} {k : Nat} (hk : k ≤ L.length) (h : k = 0 ∨ L.getD (k - 1) 0 ≠ 0) : Nz (L.take k) := by
  intro hne
  have hk0 : 0 < k := by rcases Nat.eq_zero_or_pos k with rfl | h; simp at hne; exact h
  have h := h.resolve_left (by omega)
  rw [List.getLast_eq_getElem, List.getElem_take]
  rw [List.getD_eq_getElem?_getD, List.getElem?_eq_getElem (by omega)] at h
  simp only [List.length_take, Nat.min_eq_left hk]
  exact h
theorem sg_lt (neg : Bool) (x : Int) (h : 0 < x) : decide (sg neg x < 0) = neg := by cases neg <;> simp [sg] <;> omega
theorem sg_abs (neg : Bool) (x : Int) (h : 0 ≤ x) : ((sg neg x).natAbs : Int) = x := by cases neg <;> simp [sg] <;> omega
theorem val_lt {L : List Int} (h : Dig L) : val L < 10000 ^ L.length := by
  induction L with
  | nil => simp [val]
  | cons d r ih =>
    have h1 := h d (by simp)
    have h2 := ih fun x hx => h x (by simp [hx])
    simp only [val, List.length_cons, Int.pow_succ]; omega
theorem val_ge {L : List Int} (h : Dig L) (hn : Nz L) (hne : L ≠ []) : 10000 ^ (L.length - 1) ≤ val L := by
  obtain ⟨r, d, rfl⟩ := List.eq_nil_or_concat L |>.resolve_left hne
  have hd := h d (by simp)
  have hd0 : d ≠ 0 := by have := hn hne; simpa using this
  have hr := val_nonneg (L := r) fun x hx => h x (by simp [hx])
  simp only [List.concat_eq_append]
  rw [val_append]
  have hp : (0 : Int) < 10000 ^ r.length := Int.pow_pos (by decide)
  have hd2 : val [d] = d := by simp [val]
  rw [hd2]
  have : (10000 : Int) ^ r.length * 1 ≤ 10000 ^ r.length * d := Int.mul_le_mul_of_nonneg_left (by omega) (by omega)
  simp; omega
theorem pow_mono {a b : Nat} (h : a ≤ b) : (10000 : Int) ^ a ≤ 10000 ^ b := by
  obtain ⟨c, rfl⟩ := Nat.exists_eq_add_of_le h
  rw [Int.pow_add]
  have h1 : (0 : Int) < 10000 ^ a := Int.pow_pos (by decide)
  have h2 : (0 : Int) < 10000 ^ c := Int.pow_pos (by decide)
  have := Int.mul_le_mul_of_nonneg_left (show (1 : Int) ≤ 10000 ^ c by omega) (show (0 : Int) ≤ 10000 ^ a by omega)
  omega
def cmpv (x y : Int) : Int := if x < y then -1 else if y < x then 1 else 0
theorem val_len {L M : List Int} (hL : Dig L) (hM : Dig M) (nM : Nz M) (h : L.length < M.length) : val L < val M := by
  have h1 := val_lt hL
  have h2 := val_ge hM nM (by rintro rfl; simp at h)
  have h3 := pow_mono (show L.length ≤ M.length - 1 by omega)
  omega
theorem cmpv_lt {x y : Int} (h : x < y) : cmpv x y = -1 := by simp [cmpv, h]
theorem cmpv_gt {x y : Int} (h : y < x) : cmpv x y = 1 := by unfold cmpv; rw [if_neg (by omega), if_pos h]
theorem cmpv_eq {x y : Int} (h : x = y) : cmpv x y = 0 := by unfold cmpv; rw [if_neg (by omega), if_neg (by omega)]
theorem cmpv_ge0 {x y : Int} (h : ¬ x < y) : 0 ≤ cmpv x y := by unfold cmpv; rw [if_neg h]; split <;> omega
theorem cmpv_bd (x y : Int) : -1 ≤ cmpv x y ∧ cmpv x y ≤ 1 := by unfold cmpv; split <;> (try split) <;> omega
theorem val_split (L : List Int) (k : Nat) (hk : k < L.length) : val L = val (L.take k) + 10000 ^ k * (L.getD k 0 + 10000 * val (L.drop (k + 1))) := by
  conv => lhs; rw [← List.take_append_drop k L, val_append]
  rw [List.length_take, Nat.min_eq_left (by omega), List.drop_eq_getElem_cons hk]
  simp only [val]
  rw [List.getD_eq_getElem?_getD, List.getElem?_eq_getElem hk]; rfl
/-- alike above place k, less at k -/
theorem val_at_lt {L M : List Int} {k : Nat} (hL : Dig L) (hM : Dig M) (hk : k < L.length) (hk' : k < M.length) (he : L.drop (k + 1) = M.drop (k + 1)) (h : L.getD k 0 < M.getD k 0) : val L < val M := by
  rw [val_split L k hk, val_split M k hk', he]
  have h1 := val_lt (hL.take k)
  have h2 := val_nonneg (hM.take k)
  rw [List.length_take, Nat.min_eq_left (by omega)] at h1
  have hp : (0 : Int) < 10000 ^ k := Int.pow_pos (by decide)
  have h3 := Int.mul_le_mul_of_nonneg_left (show L.getD k 0 + 10000 * val (M.drop (k + 1)) + 1 ≤ M.getD k 0 + 10000 * val (M.drop (k + 1)) by omega) (show (0 : Int) ≤ 10000 ^ k by omega)
  rw [Int.mul_add (10000 ^ k) _ 1] at h3
  omega
theorem drop_same {L M : List Int} {k : Nat} (hk : k < L.length) (hk' : k < M.length) (he : L.drop (k + 1) = M.drop (k + 1)) (h : L.getD k 0 = M.getD k 0) : L.drop k = M.drop k := by
  rw [List.drop_eq_getElem_cons hk, List.drop_eq_getElem_cons hk', he]
  rw [List.getD_eq_getElem?_getD, List.getElem?_eq_getElem hk, List.getD_eq_getElem?_getD, List.getElem?_eq_getElem hk'] at h
  simp at h
  rw [h]
theorem big_cast (n : Nat) : ((big n : Nat) : Int) = 10000 ^ n := by unfold big; simp
theorem len_of {L : List Int} {a N : Nat} (h : Dig L) (hn : Nz L) (hv : val L = a) (ha : a < big N) : L.length ≤ N := by
  rcases Nat.lt_or_ge N L.length with hl | hl
  · exfalso
    have h1 := val_ge h hn (by rintro rfl; simp at hl)
    have h2 := pow_mono (show N ≤ L.length - 1 by omega)
    have h3 := big_cast N
    omega
  · exact hl
theorem cmpv_neg (x y : Int) : cmpv (-x) (-y) = - cmpv x y := by unfold cmpv; repeat (first | omega | split)
/-- the digits so far of a number, and what is left of it -/
structure NI (n m : Int) (L : List Int) : Prop where
  dig : Dig L
  sum : (n.natAbs : Int) = val L + 10000 ^ L.length * (m.natAbs : Int)
  s0 : 0 ≤ n → 0 ≤ m
  s1 : n < 0 → m ≤ 0
  len : L.length ≤ 5
  lim : (m.natAbs : Int) < 10000 ^ (5 - L.length)
  nz : m = 0 → Nz L
theorem NI.start (n : Int) (h0 : -9223372036854775808 ≤ n) (h1 : n ≤ 9223372036854775807) : NI n n [] := by
  refine ⟨(by intro d hd; cases hd), by simp [val], fun h => h, fun h => by omega, by simp, by simp; omega, fun _ h => absurd rfl h⟩
def dgt (m : Int) : Int := if m.tmod 10000 < 0 then -(m.tmod 10000) else m.tmod 10000
theorem tmod_bd (m : Int) : -10000 < m.tmod 10000 ∧ m.tmod 10000 < 10000 := by
  rcases Int.le_total 0 m with h | h
  · rw [Int.tmod_eq_emod_of_nonneg h]; omega
  · obtain ⟨k, rfl⟩ : ∃ k, m = -k := ⟨-m, by omega⟩
    rw [Int.neg_tmod, Int.tmod_eq_emod_of_nonneg (by omega)]; omega
theorem dgt_eq (m : Int) : dgt m = (m.natAbs : Int) % 10000 := by
  unfold dgt
  rcases Int.le_total 0 m with h | h
  · rw [Int.tmod_eq_emod_of_nonneg h]; split <;> omega
  · obtain ⟨k, rfl⟩ : ∃ k, m = -k := ⟨-m, by omega⟩
    rw [Int.neg_tmod, Int.tmod_eq_emod_of_nonneg (by omega)]; split <;> omega
theorem tdiv_abs (m : Int) : ((m.tdiv 10000).natAbs : Int) = (m.natAbs : Int) / 10000 := by
  rcases Int.le_total 0 m with h | h
  · rw [Int.tdiv_eq_ediv_of_nonneg h]; omega
  · obtain ⟨k, rfl⟩ : ∃ k, m = -k := ⟨-m, by omega⟩
    rw [Int.neg_tdiv, Int.tdiv_eq_ediv_of_nonneg (by omega)]; omega
theorem tdiv_sign (m : Int) : (0 ≤ m → 0 ≤ m.tdiv 10000) ∧ (m ≤ 0 → m.tdiv 10000 ≤ 0) := by
  constructor
  · intro h; rw [Int.tdiv_eq_ediv_of_nonneg h]; omega
  · intro h
    obtain ⟨k, rfl⟩ : ∃ k, m = -k := ⟨-m, by omega⟩
    rw [Int.neg_tdiv, Int.tdiv_eq_ediv_of_nonneg (by omega)]; omega
theorem NI.step {n m : Int} {L : List Int} (h : NI n m L) (hm : m ≠ 0) : NI n (m.tdiv 10000) (L ++ [dgt m]) := by
  have hd := dgt_eq m
  have ht := tdiv_abs m
  have hs := tdiv_sign m
  have hl : L.length < 5 := by
    rcases Nat.lt_or_ge L.length 5 with h5 | h5
    · exact h5
    · have := h.lim; rw [show 5 - L.length = 0 by omega] at this; simp at this; omega
  refine ⟨?_, ?_, fun hn => hs.1 (h.s0 hn), fun hn => hs.2 (h.s1 hn), by simp; omega, ?_, ?_⟩
  · intro d hd'
    rcases List.mem_append.1 hd' with hd' | hd'
    · exact h.dig d hd'
    · simp at hd'; subst hd'; omega
  · rw [h.sum, val_append, ht, hd]
    simp only [List.length_append, List.length_cons, List.length_nil, val, Int.pow_succ, Int.mul_zero, Int.add_zero]
    have : (m.natAbs : Int) = (m.natAbs : Int) % 10000 + 10000 * ((m.natAbs : Int) / 10000) := by omega
    generalize (m.natAbs : Int) % 10000 = a at *
    generalize (m.natAbs : Int) / 10000 = b at *
    rw [this]; grind
  · have h1 := h.lim
    rw [show 5 - L.length = (5 - (L ++ [dgt m]).length) + 1 by simp; omega, Int.pow_succ] at h1
    rw [ht]; omega
  · intro h0 hne
    have h2 : (m.natAbs : Int) / 10000 = 0 := by rw [← ht, h0]; rfl
    simp
    rw [hd]; omega
theorem NI.bd {n m : Int} {L : List Int} (h : NI n m L) (h0 : -9223372036854775808 ≤ n) (h1 : n ≤ 9223372036854775807) : -9223372036854775808 ≤ m ∧ m ≤ 9223372036854775807 := by
  have a := h.sum
  have b := h.s0
  have c := h.s1
  have d := val_nonneg h.dig
  have e : (m.natAbs : Int) ≤ 10000 ^ L.length * (m.natAbs : Int) := by
    have hp : (0 : Int) < 10000 ^ L.length := Int.pow_pos (by decide)
    have := Int.mul_le_mul_of_nonneg_right (show (1 : Int) ≤ 10000 ^ L.length by omega) (show (0 : Int) ≤ (m.natAbs : Int) by omega)
    omega
  omega
theorem NI.done {n : Int} {L : List Int} (h : NI n 0 L) : Dig L ∧ Nz L ∧ val L = n.natAbs := ⟨h.dig, h.nz rfl, by have := h.sum; simp at this; omega⟩
theorem getD_dig {L : List Int} (h : Dig L) (k : Nat) : 0 ≤ L.getD k 0 ∧ L.getD k 0 < 10000 := by
  rw [List.getD_eq_getElem?_getD]
  rcases Nat.lt_or_ge k L.length with hk | hk
  · rw [List.getElem?_eq_getElem hk]; exact h _ (List.getElem_mem hk)
  · rw [List.getElem?_eq_none hk]; simp
theorem getD_out {L : List Int} {k : Nat} (h : L.length ≤ k) : L.getD k 0 = 0 := by rw [List.getD_eq_getElem?_getD, List.getElem?_eq_none h]; rfl
theorem val_take_succ (L : List Int) (k : Nat) : val (L.take (k + 1)) = val (L.take k) + 10000 ^ k * L.getD k 0 := by
  rcases Nat.lt_or_ge k L.length with hk | hk
  · rw [List.take_succ_eq_append_getElem hk, val_append, List.length_take, Nat.min_eq_left (by omega), List.getD_eq_getElem?_getD, List.getElem?_eq_getElem hk]
    simp [val]
  · rw [getD_out hk, List.take_of_length_le hk, List.take_of_length_le (by omega)]; simp
/-- adding (or taking away) digit by digit: after k rounds -/
structure AddI (s : Bool) (X Y : List Int) (k : Nat) (c : Int) (L : List Int) : Prop where
  dig : Dig L
  len : L.length = k
  sum : val L + 10000 ^ k * c = val (X.take k) + (if s then val (Y.take k) else - val (Y.take k))
  c0 : -1 ≤ c
  c1 : c ≤ 1
  cs : s = true → 0 ≤ c
  cd : s = false → c ≤ 0
theorem AddI.start (s : Bool) (X Y : List Int) : AddI s X Y 0 0 [] := ⟨(by intro d hd; cases hd), rfl, by cases s <;> simp [val], by omega, by omega, fun _ => by omega, fun _ => by omega⟩
theorem AddI.step {s : Bool} {X Y : List Int} {k : Nat} {c : Int} {L : List Int} (h : AddI s X Y k c L) (d c' : Int) (h0 : 0 ≤ d) (h1 : d < 10000) (g0 : -1 ≤ c') (g1 : c' ≤ 1)
    (gs : s = true → 0 ≤ c') (gd : s = false → c' ≤ 0) (he : d + 10000 * c' = c + X.getD k 0 + (if s then Y.getD k 0 else - Y.getD k 0)) : AddI s X Y (k + 1) c' (L ++ [d]) := by
  refine ⟨?_, by simp [h.len], ?_, g0, g1, gs, gd⟩
  · intro x hx
    rcases List.mem_append.1 hx with hx | hx
    · exact h.dig x hx
    · simp at hx; subst hx; omega
  · rw [val_append, val_take_succ, val_take_succ, h.len]
    have h3 := h.sum
    simp only [val, Int.mul_zero, Int.add_zero, Int.pow_succ]
    generalize (10000 : Int) ^ k = p at *
    generalize X.getD k 0 = x at *
    generalize Y.getD k 0 = y at *
    have : p * (d + 10000 * c') = p * (c + x + (if s then y else -y)) := by rw [he]
    cases s <;> simp at * <;> grind
theorem AddI.done {s : Bool} {X Y : List Int} {k : Nat} {c : Int} {L : List Int} (h : AddI s X Y k c L) (hx : X.length ≤ k) (hy : Y.length ≤ k) (hc : c ≤ 0) (hge : s = false → val Y ≤ val X) :
    val L = val X + (if s then val Y else - val Y) := by
  have h1 := h.sum
  rw [List.take_of_length_le hx, List.take_of_length_le hy] at h1
  have h2 := val_lt h.dig
  rw [h.len] at h2
  have h3 := val_nonneg h.dig
  have hp : (0 : Int) < 10000 ^ k := Int.pow_pos (by decide)
  have h4 : c = 0 := by
    cases s
    · have := hge rfl
      have h5 := h.c0
      by_cases h6 : c = -1
      · subst h6; simp at h1; omega
      · omega
    · have := h.cs rfl; omega
  subst h4
  simpa using h1
def mu (M : Nat) (k c : Int) : Nat := 2 * (M + 1 - k.toNat) + (if 0 < c then 1 else 0)
theorem mu_lt {M k : Nat} {c c' : Int} (hk : k ≤ M) : mu M ((k : Int) + 1) c' < mu M (k : Int) c := by
  unfold mu
  rw [show ((k : Int) + 1).toNat = k + 1 by omega, show (k : Int).toNat = k by omega]
  split <;> split <;> omega
end Go.Proofs.YtelblhgagpkjmaaGreatDoor.Z

/-
  Words for memory that a call makes: a block known whole; a slice of one-cell integers of the call's own; one number appended to it; make. (The lemmas on 'Blk' are after the kit's page of words to copy.)
-/
namespace Go.Proofs.YtelblhgagpkjmaaGreatDoor
set_option linter.unusedVariables false
set_option linter.unusedSimpArgs false
open Go.RowKit
set_option linter.unusedVariables false
def Blk (w : World) (g : Nat) (t : TypeId) (cs : Array Value) : Prop := w.heap[g]? = some (.cells cs t (0, 0))
section
variable {w w' : World} {g : Nat} {t : TypeId} {cs : Array Value}
theorem Blk.lt (h : Blk w g t cs) : g < w.heap.size := by
  rcases Nat.lt_or_ge g w.heap.size with hlt | hge
  · exact hlt
  · unfold Blk at h; rw [Array.getElem?_eq_none hge] at h; cases h
theorem Blk.cell (h : Blk w g t cs) (i : Nat) : w.cell? ⟨g, i, none⟩ = cs[i]? := cell_of_row w g i cs t (0, 0) h
theorem Blk.at_ (h : Blk w g t cs) (i : Nat) {v : Value} (hv : cs[i]? = some v) : w.cell? ⟨g, i, none⟩ = some v := (h.cell i).trans hv
theorem Blk.frozen (h : Blk w g t cs) (i : Nat) : w.frozen? ⟨g, i, none⟩ = false := by
  unfold Blk at h
  simp [World.frozen?, h]
theorem Blk.new (w : World) (t : TypeId) (cs : Array Value) : Blk (w.alloc (.cells cs t)) w.heap.size t cs := heap_alloc_new w _
theorem Blk.drew (h : Blk w g t cs) : Blk w.drew g t cs := h
theorem Blk.drewN (h : Blk w g t cs) (n : Nat) : Blk (w.drewN n) g t cs := h
theorem Blk.alloc (h : Blk w g t cs) (o : Obj) : Blk (w.alloc o) g t cs := (Below.heap_alloc w o g h.lt).trans h
theorem Blk.set_ (h : Blk w g t cs) (i : Nat) (u : Value) : Blk (w.setCell ⟨g, i, none⟩ u) g t (cs.setIfInBounds i u) := by
  unfold Blk at h ⊢
  simp [World.setCell, Array.getElem?_modify, h]
theorem Blk.far (h : Blk w g t cs) {p : Addr} (hp : g ≠ p.block) (u : Value) : Blk (w.setCell p u) g t cs := (Below.heap_setCell w p u g hp).trans h
theorem Blk.below {B : Nat} (h : Blk w g t cs) (hb : Below B w w') (hg : g < B) : Blk w' g t cs := (hb.block g hg).trans h
theorem Blk.grown {row : Option Nat} (h : Blk w g t cs) (hb : w.grownBy w' row) (hg : some g ≠ row) : Blk w' g t cs := (hb.block g h.lt hg).trans h
theorem Blk.ne_ {g' : Nat} {t' : TypeId} {cs' : Array Value} (h : Blk w g t cs) (h' : Blk w g' t' cs') (hne : t ≠ t') : g ≠ g' := by
  rintro rfl
  unfold Blk at h h'
  rw [h] at h'
  injection h' with h'
  injection h' with _ ht
  exact hne ht
theorem own_blk_ne {base : Nat} {e : TypeId} {size n : Nat} {v : Value} {xs : List Value} (h : w.ownsRow base e size v n xs) (hg : Blk w g t cs) (hne : e ≠ t) : some g ≠ v.ownBlock := by
  rcases h.2 with ⟨rfl, _⟩ | ⟨g', cap, cur, rfl, _, hh, _⟩
  · simp [Value.ownBlock]
  · intro he
    have : g' = g := by simpa [Value.ownBlock] using he.symm
    subst this
    exact Blk.ne_ (t := e) hh hg hne rfl
end

/-- a slice type, its element type, and the integers' kind -/
structure Elem (t e : TypeId) (k : IntKind) : Prop where
  ht : Tryz.prog.underlying t = some (.slice e)
  info : ∃ i, Tryz.prog.info? e = some i ∧ i.zero = some (.int k 0) ∧ i.size = 1 ∧ i.bytes ≤ 8
theorem Elem.of {t e : TypeId} {k : IntKind} {b : Nat} (ht : Tryz.prog.underlying t = some (.slice e)) (h : (Tryz.prog.info? e).map (fun i => (i.zero, i.size, i.bytes)) = some (some (.int k 0), 1, b)) (hb : b ≤ 8) : Elem t e k := by
  obtain ⟨i, hi, h0, h1, h2⟩ := info_parts h
  exact ⟨ht, i, hi, h0, h1, by omega⟩
/-- the call's own slice 'v' (its block's number is from 'base' on) holds the integers 'L' -/
def Own (k : IntKind) (e : TypeId) (w : World) (base : Nat) (v : Value) (L : List Int) : Prop := w.ownsRow base e 1 v L.length (L.map (Value.int k))
section
variable {k : IntKind} {e : TypeId} {w w' : World} {base : Nat} {v : Value} {L : List Int}
theorem Own.nil (k : IntKind) (e : TypeId) (w : World) (base : Nat) : Own k e w base (.slice none 0 0) [] := World.ownsRow_nil _ _ _ _
theorem Own.alloc (h : Own k e w base v L) (o : Obj) : Own k e (w.alloc o) base v L := World.ownsRow.alloc h o
theorem Own.drew (h : Own k e w base v L) : Own k e w.drew base v L := h
theorem Own.drewN (h : Own k e w base v L) (n : Nat) : Own k e (w.drewN n) base v L := h
theorem Own.low (h : Own k e w base v L) {a : Addr} (ha : a.block < base) (u : Value) : Own k e (w.setCell a u) base v L := ownsRow_setCell_below h ha u
theorem Own.below {B : Nat} (h : Own k e w base v L) (hb : Below B w w') (hB : ∀ g, v.ownBlock = some g → g < B) : Own k e w' base v L := by
  unfold Own at *
  refine ⟨h.1, ?_⟩
  rcases h.2 with hn | ⟨g, cap, cur, rfl, hg, hgg, rest⟩
  · exact .inl hn
  · exact .inr ⟨g, cap, cur, rfl, hg, (hb.block g (hB g rfl)).trans hgg, rest⟩
theorem Own.below' (h : Own k e w base v L) (hb : Below w.heap.size w w') : Own k e w' base v L := h.below hb fun g hg => (World.ownsRow.lt h g hg).2
theorem Own.lt (h : Own k e w base v L) (g : Nat) (hg : v.ownBlock = some g) : base ≤ g ∧ g < w.heap.size := World.ownsRow.lt h g hg
theorem Own.ne (h : Own k e w base v L) {g : Nat} {t : TypeId} {cs : Array Value} (hg : Blk w g t cs) (hne : e ≠ t) : some g ≠ v.ownBlock := own_blk_ne h hg hne
theorem Own.at_least {A : Option Addr} {n c : Nat} (h : Own k e w base (.slice A n c) L) : n = 0 ∨ ∃ ad, A = some ad ∧ base ≤ ad.block := by
  rcases h.2 with ⟨h, h0⟩ | ⟨g, cap, cur, h, hg, _⟩
  · injection h with h1 h2; exact .inl h2
  · injection h with h1 h2; exact .inr ⟨_, h1, hg⟩
/-- it reads as the list, for whoever takes it -/
theorem Own.sl (h : Own k e w base v L) : Sl k w v L := by
  rcases h.2 with ⟨rfl, h0⟩ | ⟨g, cap, cur, rfl, hg, hgg, hc, hm, hs, ht⟩
  · obtain rfl := List.eq_nil_of_length_eq_zero h0
    exact Sl.nil k w 0 none
  · refine ⟨some ⟨g, 0, none⟩, cap, rfl, hc, .inr ⟨⟨g, 0, none⟩, rfl, (Array.getElem?_eq_some_iff.1 hgg).1, fun j hj => ?_⟩⟩
    exact World.ownsRow.cells h (g := g) rfl j _ (by simp [hj])
theorem Own.form (h : Own k e w base v L) : ∃ A c, v = .slice A L.length c := by
  obtain ⟨A, c, h, _⟩ := h.sl
  exact ⟨A, c, h⟩
end
/-- 'append(s, x)' of one number: x lies in a new block of one cell -/
theorem app1 {t e : TypeId} {k : IntKind} (el : Elem t e k) {w : World} {ops : Array Oper} {rest : List Oper} {o : Oper} {a : Act} {Q : Exit → Act → World → Prop} (hgd : o.guard = none) (s x : Operand)
    (ho : o.op = .call { callee := .builtin .append, args := #[s, x], argTypes := #[t, t] })
    {base : Nat} {v : Value} {L : List Int} (hs : a.eval s = v) (hown : Own k e w base v L) (z : Int) (hx : a.eval x = .slice (some ⟨w.heap.size, 0, none⟩) 1 1)
    (hl : L.length ≤ 1000000000000) (hbase : base ≤ w.heap.size)
    (h : ∀ A n c w', Hid (n = L.length + 1) → Own k e w' base (.slice A n c) (L ++ [z]) → w.grownBy w' v.ownBlock → ((Value.slice A n c).ownBlock = v.ownBlock ∨ (Value.slice A n c).ownBlock = some (w.heap.size + 1)) → wpList Tryz.prog ops Q rest (a.put o.dst (.slice A n c)) w') :
    wpList Tryz.prog ops Q (o :: rest) a (w.alloc (.cells #[.int k z] e)) := by
  obtain ⟨i, hi, h0, h1, h2⟩ := el.info
  refine wpList_append_own_at (w.alloc (.cells #[.int k z] e)) hgd s x t ho base e i (.int k 0) 1 i.bytes el.ht hi h0 h1 rfl rfl (by decide) v L.length (L.map (Value.int k)) hs (hown.alloc _)
    ⟨w.heap.size, 0, none⟩ 1 1 [.int k z] hx rfl (cell_one_new _ _ _) (by intro u hu; simp at hu; subst hu; rfl) (by unfold maxLen; omega) ?_ (by simp; omega) ?_
  · have : (L.length + 1) * i.bytes ≤ (L.length + 1) * 8 := Nat.mul_le_mul_left _ h2
    omega
  · intro v' w' hown' hg _ hat
    have ho : Own k e w' base v' (L ++ [z]) := by unfold Own; simpa using hown'
    obtain ⟨A, c, rfl⟩ := ho.form
    exact h A _ c w' (show _ = _ by simp) ho ((World.grownBy_alloc w _ _).trans hg) (by simpa using hat)
theorem Blk.set2 {w : World} {g : Nat} {t : TypeId} {a0 a1 : Value} (h : Blk w g t #[a0, a1]) (x y : Value) : Blk ((w.setCell ⟨g, 0, none⟩ x).setCell ⟨g, 1, none⟩ y) g t #[x, y] := by
  simpa using (h.set_ 0 x).set_ 1 y
theorem Blk.far2 {w : World} {g g' : Nat} {t : TypeId} {cs : Array Value} (h : Blk w g t cs) (hg : g ≠ g') (x y : Value) : Blk ((w.setCell ⟨g', 0, none⟩ x).setCell ⟨g', 1, none⟩ y) g t cs :=
  (h.far (p := ⟨g', 0, none⟩) hg x).far (p := ⟨g', 1, none⟩) hg y
theorem below_set2 {w W : World} {B g : Nat} (h : Below B w W) (hg : B ≤ g) (x y : Value) : Below B w ((W.setCell ⟨g, 0, none⟩ x).setCell ⟨g, 1, none⟩ y) := (h.setCell hg x).setCell hg y
/-- two boxes of two cells exchanged -/
theorem swap2 {w W : World} {t1 t2 t3 : TypeId} {a0 a1 b0 b1 : Value} {c3 : Array Value} (h : Blk W w.heap.size t1 #[a0, a1] ∧ Blk W (w.heap.size + 1) t2 #[b0, b1] ∧ Blk W (w.heap.size + 2) t3 c3 ∧ W.heap.size = w.heap.size + 3 ∧ Below w.heap.size w W) :
    Blk ((((W.setCell ⟨w.heap.size, 0, none⟩ b0).setCell ⟨w.heap.size, 1, none⟩ b1).setCell ⟨w.heap.size + 1, 0, none⟩ a0).setCell ⟨w.heap.size + 1, 1, none⟩ a1) w.heap.size t1 #[b0, b1] ∧
    Blk ((((W.setCell ⟨w.heap.size, 0, none⟩ b0).setCell ⟨w.heap.size, 1, none⟩ b1).setCell ⟨w.heap.size + 1, 0, none⟩ a0).setCell ⟨w.heap.size + 1, 1, none⟩ a1) (w.heap.size + 1) t2 #[a0, a1] ∧
    Blk ((((W.setCell ⟨w.heap.size, 0, none⟩ b0).setCell ⟨w.heap.size, 1, none⟩ b1).setCell ⟨w.heap.size + 1, 0, none⟩ a0).setCell ⟨w.heap.size + 1, 1, none⟩ a1) (w.heap.size + 2) t3 c3 ∧
    ((((W.setCell ⟨w.heap.size, 0, none⟩ b0).setCell ⟨w.heap.size, 1, none⟩ b1).setCell ⟨w.heap.size + 1, 0, none⟩ a0).setCell ⟨w.heap.size + 1, 1, none⟩ a1).heap.size = w.heap.size + 3 ∧
    Below w.heap.size w ((((W.setCell ⟨w.heap.size, 0, none⟩ b0).setCell ⟨w.heap.size, 1, none⟩ b1).setCell ⟨w.heap.size + 1, 0, none⟩ a0).setCell ⟨w.heap.size + 1, 1, none⟩ a1) := by
  obtain ⟨h1, h2, h3, h4, h5⟩ := h
  exact ⟨(h1.set2 b0 b1).far2 (by omega) _ _, (h2.far2 (by omega) _ _).set2 _ _, (h3.far2 (by omega) _ _).far2 (by omega) _ _, by simp [World.setCell, h4], below_set2 (below_set2 h5 (Nat.le_refl _) _ _) (by omega) _ _⟩
/-- two, three new blocks behind one another -/
theorem new2 (w : World) (t1 t2 : TypeId) (c1 c2 : Array Value) (q : Nat) : Blk (((w.alloc (.cells c1 t1)).alloc (.cells c2 t2)).drewN q) w.heap.size t1 c1 ∧
    Blk (((w.alloc (.cells c1 t1)).alloc (.cells c2 t2)).drewN q) (w.heap.size + 1) t2 c2 ∧ (((w.alloc (.cells c1 t1)).alloc (.cells c2 t2)).drewN q).heap.size = w.heap.size + 2 ∧
    Below w.heap.size w (((w.alloc (.cells c1 t1)).alloc (.cells c2 t2)).drewN q) := by
  refine ⟨((Blk.new _ _ _).alloc _).drewN q, ?_, by simp [World.drewN], ?_⟩
  · have := Blk.new (w.alloc (.cells c1 t1)) t2 c2
    simp only [World.size_alloc] at this
    exact this.drewN q
  · have h := ((Below.refl _ w).alloc (Nat.le_refl _) (.cells c1 t1)).alloc (by simp) (.cells c2 t2)
    exact ⟨h.os, h.tape, h.output, h.size, h.block⟩
theorem new3 (w : World) (t1 t2 t3 : TypeId) (c1 c2 c3 : Array Value) (q : Nat) : Blk ((((w.alloc (.cells c1 t1)).alloc (.cells c2 t2)).alloc (.cells c3 t3)).drewN q) w.heap.size t1 c1 ∧
    Blk ((((w.alloc (.cells c1 t1)).alloc (.cells c2 t2)).alloc (.cells c3 t3)).drewN q) (w.heap.size + 1) t2 c2 ∧
    Blk ((((w.alloc (.cells c1 t1)).alloc (.cells c2 t2)).alloc (.cells c3 t3)).drewN q) (w.heap.size + 2) t3 c3 ∧
    ((((w.alloc (.cells c1 t1)).alloc (.cells c2 t2)).alloc (.cells c3 t3)).drewN q).heap.size = w.heap.size + 3 ∧
    Below w.heap.size w ((((w.alloc (.cells c1 t1)).alloc (.cells c2 t2)).alloc (.cells c3 t3)).drewN q) := by
  obtain ⟨h1, h2, h3, h4⟩ := new2 w t1 t2 c1 c2 0
  refine ⟨(h1.alloc _).drewN q, (h2.alloc _).drewN q, ?_, by simp [World.drewN], ?_⟩
  · have := Blk.new ((w.alloc (.cells c1 t1)).alloc (.cells c2 t2)) t3 c3
    simp only [World.size_alloc] at this
    exact this.drewN q
  · have h := (((Below.refl _ w).alloc (Nat.le_refl _) (.cells c1 t1)).alloc (by simp) (.cells c2 t2)).alloc (by simp; omega) (.cells c3 t3)
    exact ⟨h.os, h.tape, h.output, h.size, h.block⟩
end Go.Proofs.YtelblhgagpkjmaaGreatDoor

/-
  Words for a block that is a row of integers, known whole: read, written, made.
-/
namespace Go.Proofs.YtelblhgagpkjmaaGreatDoor
set_option linter.unusedVariables false
set_option linter.unusedSimpArgs false
open Go.RowKit
set_option linter.unusedVariables false
def Row (k : IntKind) (e : TypeId) (w : World) (g : Nat) (L : List Int) : Prop := Blk w g e (L.map (Value.int k)).toArray
section
variable {k : IntKind} {e : TypeId} {w w' : World} {g : Nat} {L : List Int}
theorem Row.at_ (h : Row k e w g L) (j : Nat) (hj : j < L.length) : w.cell? ⟨g, j, none⟩ = some (.int k (L.getD j 0)) := by
  refine Blk.at_ h j ?_
  rw [List.getD_eq_getElem?_getD, List.getElem?_eq_getElem hj]
  simp [hj]
theorem Row.frozen (h : Row k e w g L) (j : Nat) : w.frozen? ⟨g, j, none⟩ = false := Blk.frozen h j
theorem Row.set_ (h : Row k e w g L) (j : Nat) (z : Int) : Row k e (w.setCell ⟨g, j, none⟩ (.int k z)) g (L.set j z) := by
  have := Blk.set_ h j (.int k z)
  unfold Row
  rw [List.map_set]
  simpa using this
theorem Row.far (h : Row k e w g L) {p : Addr} (hp : g ≠ p.block) (u : Value) : Row k e (w.setCell p u) g L := Blk.far h hp u
theorem Row.alloc (h : Row k e w g L) (o : Obj) : Row k e (w.alloc o) g L := Blk.alloc h o
theorem Row.lt (h : Row k e w g L) : g < w.heap.size := Blk.lt h
theorem Row.sl (h : Row k e w g L) (c : Nat) (hc : L.length ≤ c) : Sl k w (.slice (some ⟨g, 0, none⟩) L.length c) L := by
  refine ⟨_, c, rfl, hc, .inr ⟨⟨g, 0, none⟩, rfl, h.lt, fun j hj => ?_⟩⟩
  have := h.at_ j hj
  rw [List.getD_eq_getElem?_getD, List.getElem?_eq_getElem hj] at this
  have e : (⟨g, 0, none⟩ : Addr).add j = ⟨g, j, none⟩ := by unfold Addr.add; split <;> simp_all
  rw [e]; exact this
theorem Row.after {W : World} {B : Nat} (hb : Below B W w') (h : Row k e w g L) (ew : W.heap = w.heap) (hg : g < B) : Row k e w' g L := (hb.block g hg).trans ((congrArg (fun x => x[g]?) ew).trans h)
theorem made_row (k : IntKind) (n : Nat) : madeCells #[.int k 0] n = ((List.replicate n (0 : Int)).map (Value.int k)).toArray := by
  apply Array.ext
  · simp [madeCells]
  · intro i h1 h2
    simp [madeCells, Nat.mod_one]
theorem Row.new (k : IntKind) (e : TypeId) (w : World) (n : Nat) : Row k e (w.alloc (.cells (madeCells #[.int k 0] n) e)) w.heap.size (List.replicate n 0) := by
  unfold Row; rw [← made_row]; exact Blk.new _ _ _
theorem Row.new' (k : IntKind) (e : TypeId) (w : World) (n : Nat) {g : Nat} (hg : w.heap.size = g) : Row k e (w.alloc (.cells (madeCells #[.int k 0] n) e)) g (List.replicate n 0) := hg ▸ Row.new k e w n
theorem Blk.new' (w : World) (t : TypeId) (cs : Array Value) {g : Nat} (hg : w.heap.size = g) : Blk (w.alloc (.cells cs t)) g t cs := hg ▸ Blk.new w t cs
theorem Row.drew (h : Row k e w g L) : Row k e w.drew g L := h
end
end Go.Proofs.YtelblhgagpkjmaaGreatDoor

/-
  Plain mathematics of the product by rows of digits, and of the carry.
-/
namespace Go.Proofs.YtelblhgagpkjmaaGreatDoor.Z
set_option linter.unusedVariables false
set_option linter.unusedSimpArgs false
theorem getD_set {L : List Int} {k : Nat} (h : k < L.length) (j : Nat) (z : Int) : (L.set k z).getD j 0 = if j = k then z else L.getD j 0 := by
  simp only [List.getD_eq_getElem?_getD, List.getElem?_set]
  by_cases e : k = j
  · subst e; simp [h]
  · simp [e, Ne.symm e]
theorem val_set (L : List Int) (k : Nat) (z : Int) (h : k < L.length) : val (L.set k z) = val L + 10000 ^ k * (z - L.getD k 0) := by
  induction L generalizing k with
  | nil => simp at h
  | cons d r ih =>
    cases k with
    | zero => simp [val]; omega
    | succ k =>
      have := ih k (by simpa using h)
      simp only [List.set_cons_succ, val, this, List.getD_cons_succ, Int.pow_succ]
      grind
theorem val_rep (n : Nat) : val (List.replicate n 0) = 0 := by
  induction n with
  | zero => rfl
  | succ n ih => simp [List.replicate_succ, val, ih]
theorem getD_rep (n k : Nat) : (List.replicate n (0 : Int)).getD k 0 = 0 := by
  simp [List.getD_eq_getElem?_getD, List.getElem?_replicate]; split <;> rfl
theorem val_ge_at {L : List Int} (h : ∀ k, 0 ≤ L.getD k 0) (k : Nat) : 10000 ^ k * L.getD k 0 ≤ val L := by
  induction L generalizing k with
  | nil => simp [val]
  | cons d r ih =>
    have h0 := h 0
    have hr : ∀ k, 0 ≤ r.getD k 0 := fun k => by simpa using h (k + 1)
    simp at h0
    cases k with
    | zero =>
      have := ih hr 0
      have h1 := hr 0
      simp at this h1
      simp [val]; omega
    | succ k =>
      have := ih hr k
      simp only [val, List.getD_cons_succ, Int.pow_succ]
      have e : (10000 : Int) ^ k * 10000 * r.getD k 0 = 10000 * (10000 ^ k * r.getD k 0) := by grind
      omega
/-- after i rows, and j places of the next one -/
structure MulI (X Y : List Int) (N i j : Nat) (x : Int) (L : List Int) : Prop where
  len : L.length = N
  lo : ∀ k, 0 ≤ L.getD k 0
  hi : ∀ k, L.getD k 0 ≤ ((i : Int) + 1) * 100000000
  hj : ∀ k, i + j ≤ k → L.getD k 0 ≤ (i : Int) * 100000000
  sum : val L = val (X.take i) * val Y + 10000 ^ i * x * val (Y.take j)
theorem MulI.start (X Y : List Int) (N : Nat) : MulI X Y N 0 0 (X.getD 0 0) (List.replicate N 0) :=
  ⟨by simp, fun k => by rw [getD_rep]; omega, fun k => by rw [getD_rep]; omega, fun k _ => by rw [getD_rep]; omega, by simp [val_rep, val]⟩
theorem MulI.step {X Y : List Int} {N i j : Nat} {x y : Int} {L : List Int} (h : MulI X Y N i j x L) (hx : 0 ≤ x ∧ x < 10000) (hy : 0 ≤ y ∧ y < 10000) (ey : Y.getD j 0 = y) (hN : i + j < N) :
    MulI X Y N i (j + 1) x (L.set (i + j) (L.getD (i + j) 0 + x * y)) := by
  have hl : i + j < L.length := by rw [h.len]; exact hN
  have hxy : 0 ≤ x * y := Int.mul_nonneg hx.1 hy.1
  have hxy2 : x * y ≤ 9999 * 9999 := Int.mul_le_mul (by omega) (by omega) hy.1 (by omega)
  have hb := h.hj (i + j) (Nat.le_refl _)
  refine ⟨by simp [h.len], ?_, ?_, ?_, ?_⟩
  · intro k; rw [getD_set hl]; split
    · have := h.lo (i + j); omega
    · exact h.lo k
  · intro k; rw [getD_set hl]; split
    · omega
    · exact h.hi k
  · intro k hk; rw [getD_set hl, if_neg (by omega)]; exact h.hj k (by omega)
  · rw [val_set _ _ _ hl, h.sum, val_take_succ, ey, Int.pow_add]; grind
theorem MulI.next {X Y : List Int} {N i j : Nat} {x : Int} {L : List Int} (h : MulI X Y N i j x L) (ex : X.getD i 0 = x) (hj : Y.length ≤ j) (x' : Int) : MulI X Y N (i + 1) 0 x' L := by
  refine ⟨h.len, h.lo, fun k => ?_, fun k _ => ?_, ?_⟩
  · have := h.hi k; omega
  · have := h.hi k; omega
  · rw [h.sum, val_take_succ, ex, List.take_of_length_le hj]; simp [val]; grind
/-- the carry so far -/
structure CarI (P : Int) (N k : Nat) (L : List Int) : Prop where
  len : L.length = N
  sum : val L = P
  lo : ∀ j, 0 ≤ L.getD j 0
  done : ∀ j, j < k → L.getD j 0 < 10000
  hi : ∀ j, L.getD j 0 ≤ 200000000000000
  rest : ∀ j, k < j → L.getD j 0 ≤ 100000200000000
theorem MulI.carry {X Y : List Int} {N i : Nat} {x : Int} {L : List Int} (h : MulI X Y N i 0 x L) (hi : X.length ≤ i) (hb : i ≤ 1000000) : CarI (val X * val Y) N 0 L := by
  refine ⟨h.len, ?_, h.lo, by omega, fun j => ?_, fun j _ => ?_⟩
  · rw [h.sum, List.take_of_length_le hi]; simp [val]
  · have := h.hi j; omega
  · have := h.hi j; omega
theorem CarI.last {P : Int} {N k : Nat} {L : List Int} (h : CarI P N k L) (hk : k < N) (hP : P < 10000 ^ (N - 1)) (hb : 10000 ≤ L.getD k 0) : k + 1 < N := by
  rcases Nat.lt_or_ge (k + 1) N with h1 | h1
  · exact h1
  · exfalso
    have h2 := val_ge_at h.lo k
    rw [h.sum] at h2
    obtain rfl : k = N - 1 := by omega
    have hp : (0 : Int) < 10000 ^ (N - 1) := Int.pow_pos (by decide)
    have := Int.mul_le_mul_of_nonneg_left hb (show (0 : Int) ≤ 10000 ^ (N - 1) by omega)
    omega
theorem CarI.small {P : Int} {N k : Nat} {L : List Int} (h : CarI P N k L) (hb : L.getD k 0 < 10000) : CarI P N (k + 1) L :=
  ⟨h.len, h.sum, h.lo, fun j hj => by by_cases e : j = k; (subst e; exact hb); exact h.done j (by omega), h.hi, fun j hj => h.rest j (by omega)⟩
theorem CarI.step {P : Int} {N k : Nat} {L : List Int} (h : CarI P N k L) (hk : k + 1 < N) :
    CarI P N (k + 1) ((L.set (k + 1) (L.getD (k + 1) 0 + L.getD k 0 / 10000)).set k (L.getD k 0 % 10000)) := by
  have h1 : k + 1 < L.length := by rw [h.len]; exact hk
  have h2 : k < (L.set (k + 1) (L.getD (k + 1) 0 + L.getD k 0 / 10000)).length := by simp; omega
  have a0 := h.lo k
  have a1 := h.lo (k + 1)
  have a2 := h.hi k
  have a3 := h.rest (k + 1) (by omega)
  have gd : ∀ j, ((L.set (k + 1) (L.getD (k + 1) 0 + L.getD k 0 / 10000)).set k (L.getD k 0 % 10000)).getD j 0 = if j = k then L.getD k 0 % 10000 else if j = k + 1 then L.getD (k + 1) 0 + L.getD k 0 / 10000 else L.getD j 0 := by
    intro j; rw [getD_set h2, getD_set h1]
  refine ⟨by simp [h.len], ?_, ?_, ?_, ?_, ?_⟩
  · rw [val_set _ _ _ h2, val_set _ _ _ h1, h.sum, getD_set h1, if_neg (by omega), Int.pow_succ]
    have e := Int.mul_ediv_add_emod (L.getD k 0) 10000
    generalize L.getD k 0 / 10000 = q at *
    generalize L.getD k 0 % 10000 = r at *
    grind
  · intro j; rw [gd]; have := h.lo j; split; omega; split <;> omega
  · intro j hj; rw [gd]; have := h.done j; split; omega; split <;> omega
  · intro j; rw [gd]; have := h.hi j; split; omega; split <;> omega
  · intro j hj; rw [gd]; have := h.rest j; split; omega; split <;> omega
theorem CarI.dig {P : Int} {N : Nat} {L : List Int} (h : CarI P N N L) : Dig L := by
  intro d hd
  obtain ⟨j, hj, rfl⟩ := List.getElem_of_mem hd
  have h1 := h.lo j
  have h2 := h.done j (by rw [← h.len]; exact hj)
  rw [List.getD_eq_getElem?_getD, List.getElem?_eq_getElem hj] at h1 h2
  exact ⟨h1, h2⟩
theorem mul_lt_pow {X Y : List Int} {n m : Nat} (hX : Dig X) (hY : Dig Y) (hn : X.length = n) (hm : Y.length = m) : val X * val Y < 10000 ^ (n + m + 1 - 1) := by
  have h1 := val_lt hX
  have h2 := val_lt hY
  rw [hn] at h1
  rw [hm] at h2
  have h3 := val_nonneg hX
  have h4 := val_nonneg hY
  rw [Nat.add_sub_cancel, Int.pow_add]
  have hp : (0 : Int) < 10000 ^ m := Int.pow_pos (by decide)
  rcases Int.lt_or_eq_of_le h4 with h5 | h5
  · have a := Int.mul_lt_mul_of_pos_right h1 h5
    have b := Int.mul_le_mul_of_nonneg_left (Int.le_of_lt h2) (show (0 : Int) ≤ 10000 ^ n from Int.le_of_lt (Int.pow_pos (by decide)))
    omega
  · rw [← h5]; simp; exact Int.mul_pos (Int.pow_pos (by decide)) hp
end Go.Proofs.YtelblhgagpkjmaaGreatDoor.Z

/-
  Plain mathematics: lists of limbs of 32 bits, lowest first; their value.
-/
namespace Go.Proofs.YtelblhgagpkjmaaGreatDoor.L
set_option linter.unusedVariables false
set_option linter.unusedSimpArgs false
open Z (Nz)
def lv : List Int → Int
  | [] => 0
  | d :: r => d + 4294967296 * lv r
def Lim (L : List Int) : Prop := ∀ d ∈ L, 0 ≤ d ∧ d < 4294967296
theorem lv_append (a b : List Int) : lv (a ++ b) = lv a + 4294967296 ^ a.length * lv b := by
  induction a with
  | nil => simp [lv]
  | cons d r ih => simp only [List.cons_append, lv, ih, List.length_cons, Int.pow_succ]; grind
theorem lv_nonneg {L : List Int} (h : Lim L) : 0 ≤ lv L := by
  induction L with
  | nil => simp [lv]
  | cons d r ih =>
    have h1 := h d (by simp)
    have h2 := ih fun x hx => h x (by simp [hx])
    simp only [lv]; omega
theorem Lim.take {L : List Int} (h : Lim L) (n : Nat) : Lim (L.take n) := fun d hd => h d (List.mem_of_mem_take hd)
theorem Lim.drop {L : List Int} (h : Lim L) (n : Nat) : Lim (L.drop n) := fun d hd => h d (List.mem_of_mem_drop hd)
theorem Lim.nil : Lim [] := by intro d h; cases h
theorem Lim.app {L M : List Int} (h : Lim L) (h' : Lim M) : Lim (L ++ M) := by
  intro d hd
  rcases List.mem_append.1 hd with hd | hd
  · exact h d hd
  · exact h' d hd
theorem lv_lt {L : List Int} (h : Lim L) : lv L < 4294967296 ^ L.length := by
  induction L with
  | nil => simp [lv]
  | cons d r ih =>
    have h1 := h d (by simp)
    have h2 := ih fun x hx => h x (by simp [hx])
    simp only [lv, List.length_cons, Int.pow_succ]; omega
theorem pow_pos (n : Nat) : (0 : Int) < 4294967296 ^ n := Int.pow_pos (by decide)
theorem pow_mono {a b : Nat} (h : a ≤ b) : (4294967296 : Int) ^ a ≤ 4294967296 ^ b := by
  obtain ⟨c, rfl⟩ := Nat.exists_eq_add_of_le h
  rw [Int.pow_add]
  have h1 := pow_pos a
  have h2 := pow_pos c
  have := Int.mul_le_mul_of_nonneg_left (show (1 : Int) ≤ 4294967296 ^ c by omega) (show (0 : Int) ≤ 4294967296 ^ a by omega)
  omega
theorem pow_two (h : Nat) : (4294967296 : Int) ^ h = 2 ^ (32 * h) := by rw [show (4294967296 : Int) = 2 ^ 32 by decide, ← Int.pow_mul]
theorem lv_ge {L : List Int} (h : Lim L) (hn : Nz L) (hne : L ≠ []) : 4294967296 ^ (L.length - 1) ≤ lv L := by
  obtain ⟨r, d, rfl⟩ := List.eq_nil_or_concat L |>.resolve_left hne
  have hd := h d (by simp)
  have hd0 : d ≠ 0 := by have := hn hne; simpa using this
  have hr := lv_nonneg (L := r) fun x hx => h x (by simp [hx])
  simp only [List.concat_eq_append]
  rw [lv_append]
  have hd2 : lv [d] = d := by simp [lv]
  rw [hd2]
  have : (4294967296 : Int) ^ r.length * 1 ≤ 4294967296 ^ r.length * d := Int.mul_le_mul_of_nonneg_left (by omega) (by have := pow_pos r.length; omega)
  simp; omega
theorem lv_cut (L : List Int) (k : Nat) (hk : k ≤ L.length) : lv L = lv (L.take k) + 4294967296 ^ k * lv (L.drop k) := by
  conv => lhs; rw [← List.take_append_drop k L, lv_append]
  rw [List.length_take, Nat.min_eq_left hk]
theorem lv_len {L M : List Int} (hL : Lim L) (hM : Lim M) (nM : Nz M) (h : L.length < M.length) : lv L < lv M := by
  have h1 := lv_lt hL
  have h2 := lv_ge hM nM (by rintro rfl; simp at h)
  have h3 := pow_mono (show L.length ≤ M.length - 1 by omega)
  omega
theorem lv_same_len {L M : List Int} (hL : Lim L) (hM : Lim M) (hl : L.length = M.length) (h : lv L = lv M) : L = M := by
  induction L generalizing M with
  | nil => simp at hl; exact (List.eq_nil_of_length_eq_zero hl.symm).symm
  | cons d r ih =>
    cases M with
    | nil => simp at hl
    | cons d' r' =>
      simp only [lv] at h
      have h1 := hL d (by simp)
      have h2 := hM d' (by simp)
      have e : d = d' := by omega
      have e2 : lv r = lv r' := by omega
      rw [e, ih (fun x hx => hL x (by simp [hx])) (fun x hx => hM x (by simp [hx])) (by simpa using hl) e2]
theorem lv_inj {L M : List Int} (hL : Lim L) (hM : Lim M) (nL : Nz L) (nM : Nz M) (h : lv L = lv M) : L = M := by
  rcases Nat.lt_trichotomy L.length M.length with hl | hl | hl
  · have := lv_len hL hM nM hl; omega
  · exact lv_same_len hL hM hl h
  · have := lv_len hM hL nL hl; omega
theorem lv_bigN {L : List Int} (h : Lim L) (N : Nat) (hl : 3 * L.length ≤ N) : (lv L).natAbs < Z.big N := by
  have h1 := lv_lt h
  have h2 := lv_nonneg h
  have h3 := Z.pow_mono hl
  have h4 : (4294967296 : Int) ^ L.length ≤ 10000 ^ (3 * L.length) := by
    rw [Int.pow_mul]
    have : (4294967296 ^ L.length : Nat) ≤ (10000 ^ 3) ^ L.length := Nat.pow_le_pow_left (by decide) _
    have h := Int.ofNat_le.2 this
    rw [Int.natCast_pow, Int.natCast_pow] at h
    exact h
  have h5 := Z.big_cast N
  omega
theorem lv_big {L : List Int} (h : Lim L) (hl : L.length ≤ 30000) : (lv L).natAbs < Z.big 1000000 := lv_bigN h _ (by omega)
end Go.Proofs.YtelblhgagpkjmaaGreatDoor.L

/-
  A region that draws its order, with a condition on the world that is held till the last operations (numbers from 'nl' on, which wait for all that is taken first): a store at the end may then hit a cell that the region loads.
-/
namespace Go.Proofs.YtelblhgagpkjmaaGreatDoor
set_option linter.unusedVariables false
set_option linter.unusedSimpArgs false
open Go.RowKit
set_option linter.unusedVariables false
section
variable {P : Program} {ops : Array Oper} {Q : Exit → Act → World → Prop} {md : Region.Mode} {S : World → Prop} {nl : Nat}
/-- whatever order is picked; behind every operation but the last ones the condition holds -/
def wpAnyL (P : Program) (md : Region.Mode) (ops : Array Oper) (Q : Exit → Act → World → Prop) (S : World → Prop) (nl : Nat) : Nat → Array Bool → Act → World → Prop
  | 0, listed, a, w => Region.ready md ops listed = [] ∧ Q .normal a w
  | fuel + 1, listed, a, w =>
    (Region.ready md ops listed = [] → Q .normal a w) ∧
    ∀ i ∈ Region.ready md ops listed, wpOp P ops Q i (fun a' w' => (i < nl → S w') ∧ wpAnyL P md ops Q S nl fuel (listed.setIfInBounds i true) a' w') a w
theorem wpAny_of_L : ∀ (fuel : Nat) (listed : Array Bool) (a : Act) (w : World), wpAnyL P md ops Q S nl fuel listed a w → wpAny P md ops Q fuel listed a w
  | 0, _, _, _, h => h
  | fuel + 1, _, _, _, h => ⟨h.1, fun i hi => wpOp_mono (fun a' w' h' => wpAny_of_L fuel _ a' w' h'.2) (h.2 i hi)⟩
/-- do all the last ones that have not come up wait for number i, or for one that has not come up and waits for it? -/
def lastWait (md : Region.Mode) (ops : Array Oper) (nl : Nat) (listed : Array Bool) (i : Nat) : Bool :=
  (List.range ops.size).all fun j => decide (j < nl) || j == i || listed.getD j true || match ops[j]? with
    | some oj => oj.after.any (fun e => Region.binds md e && (e.on == i || (!listed.getD e.on true && match ops[e.on]? with
      | some ok => ok.after.any (fun e' => Region.binds md e' && e'.on == i)
      | none => false)))
    | none => true
def LastWaits (md : Region.Mode) (ops : Array Oper) (nl : Nat) (listed : Array Bool) (i : Nat) : Prop :=
  ∀ (j : Nat) (oj : Oper), ops[j]? = some oj → nl ≤ j → j ≠ i → listed.getD j true = false →
    (∃ e ∈ oj.after, Region.binds md e = true ∧ e.on = i) ∨
    (∃ e ∈ oj.after, Region.binds md e = true ∧ listed.getD e.on true = false ∧ ∃ ok, ops[e.on]? = some ok ∧ ∃ e' ∈ ok.after, Region.binds md e' = true ∧ e'.on = i)
theorem lastWait_spec {listed : Array Bool} {i : Nat} (h : lastWait md ops nl listed i = true) : LastWaits md ops nl listed i := by
  intro j oj hj hnl hne hun
  unfold lastWait at h
  simp only [List.all_eq_true, List.mem_range] at h
  have h1 := h j (Array.getElem?_eq_some_iff.1 hj).1
  have hd : decide (j < nl) = false := by simp; exact hnl
  have hne' : (j == i) = false := by simpa using hne
  simp only [hj, hd, hne', hun, Bool.false_or] at h1
  obtain ⟨e, he, hb⟩ := Array.any_eq_true'.1 h1
  simp only [Bool.and_eq_true, Bool.or_eq_true, beq_iff_eq, Bool.not_eq_true'] at hb
  obtain ⟨hb1, hb2 | ⟨hb2, hb3⟩⟩ := hb
  · exact .inl ⟨e, he, hb1, hb2⟩
  · refine .inr ⟨e, he, hb1, hb2, ?_⟩
    cases hk : ops[e.on]? with
    | none => rw [hk] at hb3; cases hb3
    | some ok =>
      rw [hk] at hb3
      obtain ⟨e', he', hb'⟩ := Array.any_eq_true'.1 hb3
      simp only [Bool.and_eq_true, beq_iff_eq] at hb'
      exact ⟨ok, rfl, e', he', hb'.1, hb'.2⟩
theorem getD_both {listed : Array Bool} {k : Nat} (h1 : listed.getD k true = false) (h2 : listed.getD k false = true) : False := by
  rcases Nat.lt_or_ge k listed.size with h | h
  · simp [h] at h1 h2; rw [h1] at h2; cases h2
  · simp [Array.getElem?_eq_none h] at h2
theorem wpAnyL_first {i : Nat} {oi : Oper} {v : Value} (hi : ops[i]? = some oi) (hsel : ∀ (j : Nat) (o : Oper) cs b, ops[j]? = some o → o.op ≠ .select cs b)
    (hQ : ∀ c a w, Q (.panic c) (a.put oi.dst v) w → Q (.panic c) a w) :
    ∀ (fuel : Nat) (listed : Array Bool) (a : Act) (w : World),
      (∀ j oj, ops[j]? = some oj → j ≠ i → listed.getD j true = false → (∀ e ∈ oj.after, Region.binds md e = true → e.on ≠ i) → oi.apart ops oj = true) → LastWaits md ops nl listed i →
      i ∈ Region.ready md ops listed → YieldsIf P ops S oi v a → S w →
      wpAnyL P md ops Q S nl fuel (listed.setIfInBounds i true) (a.put oi.dst v) w → wpAnyL P md ops Q S nl (fuel + 1) listed a w := by
  intro fuel
  induction fuel with
  | zero =>
    intro listed a w _ _ hr hy hS H
    refine ⟨fun h => (by rw [h] at hr; cases hr), fun j hj => ?_⟩
    by_cases hji : j = i
    · subst hji; exact hy.wpOp hi hS ⟨fun _ => hS, H⟩
    · have := ready_mono hj hji
      rw [H.1] at this
      cases this
  | succ fuel ih =>
    intro listed a w hfree hW hr hy hS H
    refine ⟨fun h => (by rw [h] at hr; cases hr), fun j hj => ?_⟩
    by_cases hji : j = i
    · subst hji; exact hy.wpOp hi hS ⟨fun _ => hS, H⟩
    · have h1 := H.2 j (ready_mono hj hji)
      obtain ⟨hjun, oj, hoj, hall⟩ := mem_ready.1 hj
      have hnot : ∀ e ∈ oj.after, Region.binds md e = true → e.on ≠ i := fun e he hb heq => by
        have h1 := hall e he hb
        have h0 := (mem_ready.1 hr).1
        rw [heq] at h1
        rcases Nat.lt_or_ge i listed.size with h' | h'
        · simp [h'] at h0 h1; rw [h0] at h1; cases h1
        · simp [Array.getElem?_eq_none h'] at h1
      have hap := hfree j oj hoj hji hjun hnot
      have hiun := (mem_ready.1 hr).1
      have hlt : j < nl := by
        rcases Nat.lt_or_ge j nl with h | h
        · exact h
        · exfalso
          rcases hW j oj hoj h hji hjun with ⟨e, he, hb, heq⟩ | ⟨e, he, hb, hun, _⟩
          · exact hnot e he hb heq
          · exact getD_both hun (hall e he hb)
      have h2 := wpOp_putIf hoj hap (fun cs b => hsel i oi cs b hi) (fun cs b => hsel j oj cs b hoj) hQ hy h1
      refine wpOp_mono (fun a' w' h3 => ⟨h3.2.1, ih (listed.setIfInBounds j true) a' w' ?_ ?_ (ready_mono hr (Ne.symm hji)) h3.1 (h3.2.1 hlt) ?_⟩) h2
      · intro k ok hk hki hun hno
        refine hfree k ok hk hki ?_ hno
        by_cases hjk : j = k
        · subst hjk; exact hjun
        · rw [getD_set_ne true hjk] at hun; exact hun
      · intro k ok hk hnl hki hun
        have hun' : listed.getD k true = false := by
          by_cases hjk : j = k
          · subst hjk; exact hjun
          · rw [getD_set_ne true hjk] at hun; exact hun
        rcases hW k ok hk hnl hki hun' with h | ⟨e, he, hb, hu, o2, ho2, e', he', hb', heq⟩
        · exact .inl h
        · refine .inr ⟨e, he, hb, ?_, o2, ho2, e', he', hb', heq⟩
          by_cases hje : j = e.on
          · exfalso
            rw [← hje, hoj] at ho2
            injection ho2 with ho2
            subst ho2
            exact hnot e' he' hb' heq
          · rw [getD_set_ne true hje]; exact hu
      · rw [Array.setIfInBounds_comm _ _ hji]
        exact h3.2.2
theorem wpAnyL_take {i : Nat} {oi : Oper} {v : Value} {fuel : Nat} {listed : Array Bool} {a : Act} {w : World} (hi : ops[i]? = some oi)
    (hs : Region.noSelect ops = true) (hf : (Region.free md ops listed i && lastWait md ops nl listed i) = true) (hr : (Region.ready md ops listed).contains i = true)
    (hQ : ∀ c a w, Q (.panic c) (a.put oi.dst v) w → Q (.panic c) a w) (hy : YieldsIf P ops S oi v a) (hS : S w)
    (h : wpAnyL P md ops Q S nl fuel (listed.setIfInBounds i true) (a.put oi.dst v) w) : wpAnyL P md ops Q S nl (fuel + 1) listed a w := by
  simp only [Bool.and_eq_true] at hf
  exact wpAnyL_first hi (Region.noSelect_spec hs) hQ fuel listed a w (fun j oj hj hne hun hno => Region.free_spec hi hf.1 j oj hj hne hun hno) (lastWait_spec hf.2) (by simpa using hr) hy hS h
/-- the one operation that may come up comes up -/
theorem wpAnyL_one {i : Nat} {o : Oper} {fuel : Nat} {listed : Array Bool} {a : Act} {w : World} (hr : Region.ready md ops listed = [i]) (ho : ops[i]? = some o)
    (h : ∀ K' : Act → World → Prop, Shut (∀ a w, (i < nl → S w) → ((i < nl → S w) → wpAnyL P md ops Q S nl fuel (listed.setIfInBounds i true) a w) → K' a w) → if Region.wanted o (yielded ops a.tmps) = true then Oper.wp P o a w K' Q else K' (a.put o.dst undef) w) :
    wpAnyL P md ops Q S nl (fuel + 1) listed a w := by
  refine ⟨fun h0 => (by rw [hr] at h0; cases h0), fun j hj => ?_⟩
  rw [hr] at hj
  obtain rfl : j = i := by simpa using hj
  exact wpOp_step ho (fun K' hK => h K' (fun a w hS hW => hK a w ⟨hS, hW hS⟩))
/-- one of two comes up -/
theorem wpAnyL_two {i j : Nat} {oi oj : Oper} {fuel : Nat} {listed : Array Bool} {a : Act} {w : World} (hr : Region.ready md ops listed = [i, j]) (hoi : ops[i]? = some oi) (hoj : ops[j]? = some oj)
    (h1 : ∀ K' : Act → World → Prop, Shut (∀ a w, (i < nl → S w) → ((i < nl → S w) → wpAnyL P md ops Q S nl fuel (listed.setIfInBounds i true) a w) → K' a w) → if Region.wanted oi (yielded ops a.tmps) = true then Oper.wp P oi a w K' Q else K' (a.put oi.dst undef) w)
    (h2 : ∀ K' : Act → World → Prop, Shut (∀ a w, (j < nl → S w) → ((j < nl → S w) → wpAnyL P md ops Q S nl fuel (listed.setIfInBounds j true) a w) → K' a w) → if Region.wanted oj (yielded ops a.tmps) = true then Oper.wp P oj a w K' Q else K' (a.put oj.dst undef) w) :
    wpAnyL P md ops Q S nl (fuel + 1) listed a w := by
  refine ⟨fun h0 => (by rw [hr] at h0; cases h0), fun k hk => ?_⟩
  rw [hr] at hk
  rcases List.mem_cons.1 hk with rfl | hk
  · exact wpOp_step hoi (fun K' hK => h1 K' (fun a w hS hW => hK a w ⟨hS, hW hS⟩))
  · obtain rfl : k = j := by simpa using hk
    exact wpOp_step hoj (fun K' hK => h2 K' (fun a w hS hW => hK a w ⟨hS, hW hS⟩))
theorem wpAnyL_done {listed : Array Bool} {a : Act} {w : World} (hr : Region.ready md ops listed = []) (h : Q .normal a w) :
    ∀ fuel, wpAnyL P md ops Q S nl fuel listed a w
  | 0 => ⟨hr, h⟩
  | _ + 1 => ⟨fun _ => h, by rw [hr]; simp⟩
theorem wp_region_L {id : Nat} {a : Act} {w : World} (hm : P.follows .mixedOrders = true) (hS : S w.drew)
    (h : S w.drew → wpAnyL P .any ops Q S nl ops.size (Array.replicate ops.size false) a w.drew) : (Code.region id ops true).wp P Q a w :=
  wp_region_any hm (wpAny_of_L _ _ _ _ (h hS))
end
end Go.Proofs.YtelblhgagpkjmaaGreatDoor

/-
  Words for memory: a list appended to a slice that has no room to spare, as one step of a region that draws its order.
-/
namespace Go.Proofs.YtelblhgagpkjmaaGreatDoor
set_option linter.unusedVariables false
set_option linter.unusedSimpArgs false
open Go.RowKit
set_option linter.unusedVariables false
theorem Sl.len_ {k : IntKind} {w : World} {A : Option Addr} {n c : Nat} {L : List Int} (h : Sl k w (.slice A n c) L) : n = L.length ∧ L.length ≤ c := by
  obtain ⟨A', c', e, hc, _⟩ := h
  injection e with e1 e2 e3
  subst e3
  exact ⟨e2, hc⟩
theorem Sl.news {k : IntKind} {w : World} {ad : Addr} {n c : Nat} {L : List Int} (h : Sl k w (.slice (some ad) n c) L) : ∀ j u, (L.map (Value.int k))[j]? = some u → w.cell? (ad.add j) = some u := by
  intro j u hu
  have hj : j < L.length := by
    rcases Nat.lt_or_ge j L.length with h | h
    · exact h
    · rw [List.getElem?_eq_none (by simpa using h)] at hu; cases hu
  obtain ⟨ad', c', e, _, _, hc⟩ := h.at_ j hj
  injection e with e1 e2 e3
  injection e1 with e1
  subst e1
  rw [hc]
  rw [List.getElem?_map, List.getElem?_eq_getElem hj] at hu
  rw [List.getD_eq_getElem?_getD, List.getElem?_eq_getElem hj]
  simpa using hu
theorem step_app_list {t e : TypeId} {k : IntKind} (el : Elem t e k) {ops : Array Oper} {o : Oper} {a : Act} {w : World} {K : Act → World → Prop} {Q : Exit → Act → World → Prop} {E : Prop}
    (hg : o.guard = none) (s x : Operand) (hop : o.op = Op.call { callee := Callee.builtin Builtin.append, args := #[s, x], argTypes := #[t, t] })
    (ad : Addr) (n c : Nat) (L : List Int) (hs : a.eval s = .slice (some ad) n c) (hS : Sl k w (.slice (some ad) n c) L)
    (Ax : Option Addr) (m cx : Nat) (M : List Int) (hx : a.eval x = .slice Ax m cx) (hM : Sl k w (.slice Ax m cx) M) (hfull : M ≠ [] → c < n + m) (hlen : L.length + M.length ≤ 1000000000000)
    (h : ∀ A' n' c' w', n' = L.length + M.length → Sl k w' (.slice A' n' c') (L ++ M) → Below w.heap.size w w' → (A' = some ad ∨ ∃ g, A' = some ⟨g, 0, none⟩ ∧ w.heap.size ≤ g) → K (a.put o.dst (.slice A' n' c')) w') :
    if Region.wanted o (yielded ops a.tmps) = true then Oper.wp Tryz.prog o a w K Q else E := by
  obtain ⟨i, hi, h0, h1, h2⟩ := el.info
  have hn := hS.len_
  have hm := hM.len_
  by_cases hM0 : M = []
  · subst hM0
    have hw : Region.wanted o (yielded ops a.tmps) = true := by simp [Region.wanted, hg]
    rw [if_pos hw]
    have hm0 : m = 0 := by simpa using hm.1
    subst hm0
    have hsrc : Src Tryz.prog i.size t (.slice Ax 0 cx) 0 [] w := by
      cases Ax with
      | none => exact Src.ofNil w el.ht cx
      | some adx => exact Src.ofSlice w el.ht adx 0 cx [] (by simp) (by intro j u hu; cases hu) (by intro u hu; cases hu)
    have hrun := run_append_nothing (P := Tryz.prog) w t t o.type e i el.ht hi (some ad) n c (by omega) _ hsrc
    unfold Oper.wp
    simp [execOp, hop, resolve, invoke, builtin, hs, hx, hrun, Result.andThen]
    exact h _ _ _ _ (by simpa using hn.1) (by simpa using hS) (Below.refl _ _) (.inl rfl)
  · obtain ⟨adx, rfl⟩ : ∃ adx, Ax = some adx := by
      obtain ⟨ad', c', e, _⟩ := hM.at_ 0 (List.length_pos_iff.2 hM0)
      injection e with e1
      exact ⟨_, e1⟩
    refine step_append_grows hg s x t hop e i (.int k 0) 1 i.bytes el.ht hi h0 h1 rfl rfl (by decide) (some ad) n c (L.map (Value.int k)) hs (fun h => by cases h) (by simp [hn.1]) ?_
      adx m cx (M.map (Value.int k)) hx (by simp [hm.1]) hM.news ?_ (hfull hM0) (by unfold maxLen; omega) ?_ ?_
    · intro b hb
      injection hb with hb
      subst hb
      exact hS.news
    · intro u hu
      obtain ⟨z, _, rfl⟩ := List.mem_map.1 hu
      rfl
    · have : (n + m) * i.bytes ≤ (n + m) * 8 := Nat.mul_le_mul_left _ h2
      omega
    · intro v' w' hown hgr
      have hown' : Own k e w' w.heap.size v' (L ++ M) := by
        unfold Own
        rw [List.map_append, List.length_append, ← hn.1, ← hm.1]
        exact hown
      obtain ⟨A', c', rfl⟩ := hown'.form
      refine h A' _ c' w' (by simp) hown'.sl ?_ ?_
      · exact (Below.refl w.heap.size w).grown hgr (Nat.le_refl _) (fun g hg => by cases hg)
      · rcases hown'.2 with ⟨he, h0⟩ | ⟨g, cap, cur, he, hg', _⟩
        · exfalso
          have := List.length_pos_iff.2 hM0
          have e0 : (L ++ M).length = 0 := h0
          rw [List.length_append] at e0
          omega
        · injection he with h1
          exact .inr ⟨g, h1, hg'⟩
theorem wp_app_list {t e : TypeId} {k : IntKind} (el : Elem t e k) {o : Oper} {a : Act} {w : World} {K : Act → World → Prop} {Q : Exit → Act → World → Prop}
    (hg : o.guard = none) (s x : Operand) (hop : o.op = Op.call { callee := Callee.builtin Builtin.append, args := #[s, x], argTypes := #[t, t] })
    (ad : Addr) (n c : Nat) (L : List Int) (hs : a.eval s = .slice (some ad) n c) (hS : Sl k w (.slice (some ad) n c) L)
    (Ax : Option Addr) (m cx : Nat) (M : List Int) (hx : a.eval x = .slice Ax m cx) (hM : Sl k w (.slice Ax m cx) M) (hfull : M ≠ [] → c < n + m) (hlen : L.length + M.length ≤ 1000000000000)
    (h : ∀ A' n' c' w', n' = L.length + M.length → Sl k w' (.slice A' n' c') (L ++ M) → Below w.heap.size w w' → (A' = some ad ∨ ∃ g, A' = some ⟨g, 0, none⟩ ∧ w.heap.size ≤ g) → K (a.put o.dst (.slice A' n' c')) w') :
    Oper.wp Tryz.prog o a w K Q := by
  have := step_app_list (ops := #[]) (E := True) (Q := Q) el hg s x hop ad n c L hs hS Ax m cx M hx hM hfull hlen h
  rwa [if_pos (by simp [Region.wanted, hg])] at this
end Go.Proofs.YtelblhgagpkjmaaGreatDoor

