/-
  Texts glued together for a claim: Base Mem ZPure Z1 Z2 Own Z3 Z4 Z5 Row ZMulP Z6 Z7 LPure Z8 Held Z9 Z10 App ZDivP.
-/
import Derived.WalkKit
import Derived.Below
import Derived.Laws.OwnMore
import Derived.Deep.AppendLies
import Derived.Deep.Draws
import Derived.Test.YtnpeokgjfnobmaaDoorProg
import Derived.WalkLawsBesides
import Derived.LoopTactic
import Derived.Lib.Hide
import Derived.Outline
import Derived.RegionTactic
import Derived.BigRegion
import Derived.Deep.QuietTactic
import Derived.BigQuiet
import Derived.Laws.Rows
import Derived.Maps.AppendAt
import Derived.OwnWalk
import Derived.Deep.DeepCutAuto
import Derived.Deep.RegionWith
import Derived.Deep.OwnRows
import Derived.Deep.RegionHeld3
import Derived.OrdersHeld
import Derived.IntWalk
import Derived.Deep.Upon
import Derived.Deep.RegionLawGrows
/-
  Small lemmas that the walks and the shells share: bounds out of well-formed integers, results, and a new world that has at most new blocks.
-/
namespace Go.Proofs.YtnpeokgjfnobmaaDoor
set_option linter.unusedVariables false
set_option linter.unusedSimpArgs false
open Go.RowKit
theorem ret_int {k : IntKind} {a b : Int} (h : a = b) : Ending.returned (.int k a) = .returned (.int k b) := by rw [h]
theorem ret_bool {a b : Bool} (h : a = b) : Ending.returned (.bool a) = .returned (.bool b) := by rw [h]
theorem wfb_u64 {n : Int} (h : (Lit.int .u64 n).wf = true) : 0 ≤ n ∧ n ≤ 18446744073709551615 := by
  simp only [Lit.wf, Bool.and_eq_true, decide_eq_true_eq] at h
  exact h
theorem wfb_i64 {n : Int} (h : (Lit.int .i64 n).wf = true) : -9223372036854775808 ≤ n ∧ n ≤ 9223372036854775807 := by
  simp only [Lit.wf, Bool.and_eq_true, decide_eq_true_eq] at h
  exact h
theorem wfb_u32 {n : Int} (h : (Lit.int .u32 n).wf = true) : 0 ≤ n ∧ n ≤ 4294967295 := by
  simp only [Lit.wf, Bool.and_eq_true, decide_eq_true_eq] at h
  exact h
theorem same_grown {w w' : World} {e : Ending} {v : Value} (h : e = .returned v ∧ w = w') : e = .returned v ∧ Grown w w' := ⟨h.1, h.2 ▸ Grown.refl _⟩
end Go.Proofs.YtnpeokgjfnobmaaDoor

/-
  Words for memory: a slice of one-cell integers that reads as a list, nil let in; it is kept where the world only grows. (The first block is after the kit's page of words to copy.)
-/
namespace Go.Proofs.YtnpeokgjfnobmaaDoor
set_option linter.unusedVariables false
set_option linter.unusedSimpArgs false
open Go.RowKit
set_option linter.unusedVariables false
theorem block_of_add (a : Addr) (n : Nat) : (a.add n).block = a.block := by unfold Addr.add; split <;> rfl
theorem add_of_add (a : Addr) (i j : Nat) : (a.add i).add j = a.add (i + j) := by
  unfold Addr.add
  by_cases hi : i = 0 <;> by_cases hj : j = 0 <;> simp [hi, hj, Nat.add_assoc]

/-- the slice value 's' holds the integers 'L' of kind 'k'; its block lies in the world -/
def Sl (k : IntKind) (w : World) (s : Value) (L : List Int) : Prop :=
  ∃ A c, s = .slice A L.length c ∧ L.length ≤ c ∧ (L = [] ∨ ∃ ad, A = some ad ∧ ad.block < w.heap.size ∧ ∀ (j : Nat) (h : j < L.length), w.cell? (ad.add j) = some (.int k L[j]))
section
variable {k : IntKind} {w w' : World} {s : Value} {L : List Int}
theorem Sl.keep (h : Sl k w s L) (hs : w.heap.size ≤ w'.heap.size) (hk : ∀ p : Addr, p.block < w.heap.size → w'.cell? p = w.cell? p) : Sl k w' s L := by
  obtain ⟨A, c, e, hc, h⟩ := h
  refine ⟨A, c, e, hc, ?_⟩
  rcases h with h | ⟨ad, rfl, hb, hr⟩
  · exact .inl h
  · exact .inr ⟨ad, rfl, by omega, fun j hj => (hk _ (by rw [block_of_add]; exact hb)).trans (hr j hj)⟩
theorem Sl.below (h : Sl k w s L) (hb : Below w.heap.size w w') : Sl k w' s L := h.keep hb.size fun _ hp => hb.cell hp
theorem Sl.drewN (h : Sl k w s L) (n : Nat) : Sl k (w.drewN n) s L := h
theorem Sl.alloc (h : Sl k w s L) (o : Obj) : Sl k (w.alloc o) s L := h.keep (by simp) fun p hp => World.cell?_alloc_lt w o p hp
theorem Sl.nil (k : IntKind) (w : World) (c : Nat) (A : Option Addr) : Sl k w (.slice A 0 c) [] := ⟨A, c, rfl, by simp, .inl rfl⟩
/-- one element's cell -/
theorem Sl.at_ (h : Sl k w s L) (j : Nat) (hj : j < L.length) : ∃ ad c, s = .slice (some ad) L.length c ∧ L.length ≤ c ∧ ad.block < w.heap.size ∧ w.cell? (ad.add j) = some (.int k (L.getD j 0)) := by
  obtain ⟨A, c, e, hc, h⟩ := h
  rcases h with rfl | ⟨ad, rfl, hb, hr⟩
  · simp at hj
  · refine ⟨ad, c, e, hc, hb, ?_⟩
    rw [hr j hj, List.getD_eq_getElem?_getD, List.getElem?_eq_getElem hj]; rfl
/-- the form, for a walk: address, capacity, and each cell -/
theorem Sl.open_ (h : Sl k w s L) : ∃ A c, s = .slice A L.length c ∧ L.length ≤ c ∧ ∀ j, j < L.length → ∃ ad, A = some ad ∧ ad.block < w.heap.size ∧ w.cell? (ad.add j) = some (.int k (L.getD j 0)) := by
  obtain ⟨A, c, e, hc, h⟩ := h
  refine ⟨A, c, e, hc, fun j hj => ?_⟩
  rcases h with rfl | ⟨ad, rfl, hb, hr⟩
  · simp at hj
  · refine ⟨ad, rfl, hb, ?_⟩
    rw [hr j hj, List.getD_eq_getElem?_getD, List.getElem?_eq_getElem hj]; rfl
theorem Sl.take {A : Option Addr} {n c : Nat} (h : Sl k w (.slice A n c) L) (m : Nat) (hm : m ≤ L.length) : Sl k w (.slice A m c) (L.take m) := by
  obtain ⟨A', c', e, hc, h⟩ := h
  injection e with e1 e2 e3
  subst e1 e3
  refine ⟨A, c, by rw [List.length_take, Nat.min_eq_left hm], by rw [List.length_take]; omega, ?_⟩
  rcases h with rfl | ⟨ad, rfl, hb, hr⟩
  · left; simp
  · right
    refine ⟨ad, rfl, hb, fun j hj => ?_⟩
    rw [List.length_take] at hj
    rw [hr j (by omega), List.getElem_take]
/-- a store into a cell that holds no integer of the kind leaves it -/
theorem Sl.setCell (h : Sl k w s L) {p : Addr} {u : Value} (hu : w.cell? p = some u) (hk : ∀ z, u ≠ .int k z) (x : Value) : Sl k (w.setCell p x) s L := by
  obtain ⟨A, c, e, hc, h⟩ := h
  refine ⟨A, c, e, hc, ?_⟩
  rcases h with h | ⟨ad, rfl, hb, hr⟩
  · exact .inl h
  · refine .inr ⟨ad, rfl, by simpa [World.setCell] using hb, fun j hj => ?_⟩
    rw [World.cell?_setCell_other w p (ad.add j) x (fun e => by rw [e, hr j hj] at hu; injection hu with hu; exact hk _ hu.symm)]
    exact hr j hj
end
end Go.Proofs.YtnpeokgjfnobmaaDoor

/-
  Plain mathematics: lists of digits by ten thousand, lowest first; their value; noughts at the end.
-/
namespace Go.Proofs.YtnpeokgjfnobmaaDoor.Z
set_option linter.unusedVariables false
set_option linter.unusedSimpArgs false
def val : List Int → Int
  | [] => 0
  | d :: r => d + 10000 * val r
def Dig (L : List Int) : Prop := ∀ d ∈ L, 0 ≤ d ∧ d < 10000
def sg (b : Bool) (x : Int) : Int := if b then -x else x
/-- no nought at the end -/
def Nz (L : List Int) : Prop := ∀ h : L ≠ [], L.getLast h ≠ 0
@[irreducible] def big (n : Nat) : Nat := 10000 ^ n
theorem val_append (a b : List Int) : val (a ++ b) = val a + 10000 ^ a.length * val b := by
  induction a with
  | nil => simp [val]
  | cons d r ih => simp only [List.cons_append, val, ih, List.length_cons, Int.pow_succ]; grind
theorem val_nonneg {L : List Int} (h : Dig L) : 0 ≤ val L := by
  induction L with
  | nil => simp [val]
  | cons d r ih =>
    have h1 := h d (by simp)
    have h2 := ih fun x hx => h x (by simp [hx])
    simp only [val]; omega
theorem Dig.take {L : List Int} (h : Dig L) (n : Nat) : Dig (L.take n) := fun d hd => h d (List.mem_of_mem_take hd)
/-- from place k on there are only noughts -/
def Tz (L : List Int) (k : Nat) : Prop := ∀ d ∈ L.drop k, d = 0
theorem Tz_all (L : List Int) : Tz L L.length := by intro d hd; simp at hd
theorem Tz_pred (L : List Int) (k : Nat) (h0 : 0 < k) (hk : k ≤ L.length) (hz : L.getD (k - 1) 0 = 0) (h : Tz L k) : Tz L (k - 1) := by
  intro d hd
  rw [List.drop_eq_getElem_cons (by omega), show k - 1 + 1 = k by omega] at hd
  rcases List.mem_cons.1 hd with rfl | hd
  · rw [List.getD_eq_getElem?_getD, List.getElem?_eq_getElem (by omega)] at hz; exact hz
  · exact h d hd
theorem val_zero {L : List Int} (h : ∀ d ∈ L, d = 0) : val L = 0 := by
  induction L with
  | nil => rfl
  | cons d r ih => simp only [val]; rw [h d (by simp), ih fun x hx => h x (by simp [hx])]; rfl
theorem val_take {L : List Int} {k : Nat} (h : Tz L k) : val (L.take k) = val L := by
  conv => rhs; rw [← List.take_append_drop k L, val_append, val_zero h]
  simp
theorem val_pos {L : List Int} (h : Dig L) (hn : Nz L) (hne : L ≠ []) : 0 < val L := by
  obtain ⟨r, d, rfl⟩ := List.eq_nil_or_concat L |>.resolve_left hne
  have hd := h d (by simp)
  have hd0 : d ≠ 0 := by have := hn hne; simpa using this
  have hr := val_nonneg (L := r) fun x hx => h x (by simp [hx])
  simp only [List.concat_eq_append]
  rw [val_append]
  have hp : (0 : Int) < 10000 ^ r.length := Int.pow_pos (by decide)
  have hd2 : val [d] = d := by simp [val]
  rw [hd2]
  have : 0 < 10000 ^ r.length * d := Int.mul_pos hp (by omega)
  omega
theorem Nz_take {L : List Int} {k : Nat} (hk : k ≤ L.length) (h : k = 0 ∨ L.getD (k - 1) 0 ≠ 0) : Nz (L.take k) := by
  intro hne
  have hk0 : 0 < k := by rcases Nat.eq_zero_or_pos k with rfl | h; simp at hne; exact h
  have h := h.resolve_left (by omega)
  rw [List.getLast_eq_getElem, List.getElem_take]
  rw [List.getD_eq_getElem?_getD, List.getElem?_eq_getElem (by omega)] at h
  simp only [List.length_take, Nat.min_eq_left hk]
  exact h
theorem sg_lt (neg : Bool) (x : Int) (h : 0 < x) : decide (sg neg x < 0) = neg := by cases neg <;> simp [sg] <;> omega
theorem sg_abs (neg : Bool) (x : Int) (h : 0 ≤ x) : ((sg neg x).natAbs : Int) = x := by cases neg <;> simp [sg] <;> omega
theorem val_lt {L : List Int} (h : Dig L) : val L < 10000 ^ L.length := by
  induction L with
  | nil => simp [val]
  | cons d r ih =>
    have h1 := h d (by simp)
    have h2 := ih fun x hx => h x (by simp [hx])
    simp only [val, List.length_cons, Int.pow_succ]; omega
theorem val_ge {L : List Int} (h : Dig L) (hn : Nz L) (hne : L ≠ []) : 10000 ^ (L.length - 1) ≤ val L := by
  obtain ⟨r, d, rfl⟩ := List.eq_nil_or_concat L |>.resolve_left hne
  have hd := h d (by simp)
  have hd0 : d ≠ 0 := by have := hn hne; simpa using this
  have hr := val_nonneg (L := r) fun x hx => h x (by simp [hx])
  simp only [List.concat_eq_append]
  rw [val_append]
  have hp : (0 : Int) < 10000 ^ r.length := Int.pow_pos (by decide)
  have hd2 : val [d] = d := by simp [val]
  rw [hd2]
  have : (10000 : Int) ^ r.length * 1 ≤ 10000 ^ r.length * d := Int.mul_le_mul_of_nonneg_left (by omega) (by omega)
  simp; omega
theorem pow_mono {a b : Nat} (h : a ≤ b) : (10000 : Int) ^ a ≤ 10000 ^ b := by
  obtain ⟨c, rfl⟩ := Nat.exists_eq_add_of_le h
  rw [Int.pow_add]
  have h1 : (0 : Int) < 10000 ^ a := Int.pow_pos (by decide)
  have h2 : (0 : Int) < 10000 ^ c := Int.pow_pos (by decide)
  have := Int.mul_le_mul_of_nonneg_left (show (1 : Int) ≤ 10000 ^ c by omega) (show (0 : Int) ≤ 10000 ^ a by omega)
  omega
def cmpv (x y : Int) : Int := if x < y then -1 else if y < x then 1 else 0
theorem val_len {L M : List Int} (hL : Dig L) (hM : Dig M) (nM : Nz M) (h : L.length < M.length) : val L < val M := by
  have h1 := val_lt hL
  have h2 := val_ge hM nM (by rintro rfl; simp at h)
  have h3 := pow_mono (show L.length ≤ M.length - 1 by omega)
  omega
theorem cmpv_lt {x y : Int} (h : x < y) : cmpv x y = -1 := by simp [cmpv, h]
theorem cmpv_gt {x y : Int} (h : y < x) : cmpv x y = 1 := by unfold cmpv; rw [if_neg (by omega), if_pos h]
theorem cmpv_eq {x y : Int} (h : x = y) : cmpv x y = 0 := by unfold cmpv; rw [if_neg (by omega), if_neg (by omega)]
theorem cmpv_ge0 {x y : Int} (h : ¬ x < y) : 0 ≤ cmpv x y := by unfold cmpv; rw [if_neg h]; split <;> omega
theorem cmpv_bd (x y : Int) : -1 ≤ cmpv x y ∧ cmpv x y ≤ 1 := by unfold cmpv; split <;> (try split) <;> omega
theorem val_split (L : List Int) (k : Nat) (hk : k < L.length) : val L = val (L.take k) + 10000 ^ k * (L.getD k 0 + 10000 * val (L.drop (k + 1))) := by
  conv => lhs; rw [← List.take_append_drop k L, val_append]
  rw [List.length_take, Nat.min_eq_left (by omega), List.drop_eq_getElem_cons hk]
  simp only [val]
  rw [List.getD_eq_getElem?_getD, List.getElem?_eq_getElem hk]; rfl
/-- alike above place k, less at k -/
theorem val_at_lt {L M : List Int} {k : Nat} (hL : Dig L) (hM : Dig M) (hk : k < L.length) (hk' : k < M.length) (he : L.drop (k + 1) = M.drop (k + 1)) (h : L.getD k 0 < M.getD k 0) : val L < val M := by
  rw [val_split L k hk, val_split M k hk', he]
  have h1 := val_lt (hL.take k)
  have h2 := val_nonneg (hM.take k)
  rw [List.length_take, Nat.min_eq_left (by omega)] at h1
  have hp : (0 : Int) < 10000 ^ k := Int.pow_pos (by decide)
  have h3 := Int.mul_le_mul_of_nonneg_left (show L.getD k 0 + 10000 * val (M.drop (k + 1)) + 1 ≤ M.getD k 0 + 10000 * val (M.drop (k + 1)) by omega) (show (0 : Int) ≤ 10000 ^ k by omega)
  rw [Int.mul_add (10000 ^ k) _ 1] at h3
  omega
theorem drop_same {L M : List Int} {k : Nat} (hk : k < L.length) (hk' : k < M.length) (he : L.drop (k + 1) = M.drop (k + 1)) (h : L.getD k 0 = M.getD k 0) : L.drop k = M.drop k := by
  rw [List.drop_eq_getElem_cons hk, List.drop_eq_getElem_cons hk', he]
  rw [List.getD_eq_getElem?_getD, List.getElem?_eq_getElem hk, List.getD_eq_getElem?_getD, List.getElem?_eq_getElem hk'] at h
  simp at h
  rw [h]
theorem big_pos (n : Nat) : (0 : Int).natAbs < big n := by unfold big; exact Nat.pow_pos (by decide)
theorem big_cast (n : Nat) : ((big n : Nat) : Int) = 10000 ^ n := by unfold big; simp
theorem len_of {L : List Int} {a N : Nat} (h : Dig L) (hn : Nz L) (hv : val L = a) (ha : a < big N) : L.length ≤ N := by
  rcases Nat.lt_or_ge N L.length with hl | hl
  · exfalso
    have h1 := val_ge h hn (by rintro rfl; simp at hl)
    have h2 := pow_mono (show N ≤ L.length - 1 by omega)
    have h3 := big_cast N
    omega
  · exact hl
theorem cmpv_neg (x y : Int) : cmpv (-x) (-y) = - cmpv x y := by unfold cmpv; repeat (first | omega | split)
theorem len0_of {L : List Int} (h : Dig L) (hn : Nz L) (hv : val L = 0) : L = [] := by
  rcases List.eq_nil_or_concat L with h0 | h0
  · exact h0
  · have := val_pos h hn (by obtain ⟨r, d, rfl⟩ := h0; simp); omega
/-- the digits so far of a number, and what is left of it -/
structure NI (n m : Int) (L : List Int) : Prop where
  dig : Dig L
  sum : (n.natAbs : Int) = val L + 10000 ^ L.length * (m.natAbs : Int)
  s0 : 0 ≤ n → 0 ≤ m
  s1 : n < 0 → m ≤ 0
  len : L.length ≤ 5
  lim : (m.natAbs : Int) < 10000 ^ (5 - L.length)
  nz : m = 0 → Nz L
theorem NI.start (n : Int) (h0 : -9223372036854775808 ≤ n) (h1 : n ≤ 9223372036854775807) : NI n n [] := by
  refine ⟨(by intro d hd; cases hd), by simp [val], fun h => h, fun h => by omega, by simp, by simp; omega, fun _ h => absurd rfl h⟩
def dgt (m : Int) : Int := if m.tmod 10000 < 0 then -(m.tmod 10000) else m.tmod 10000
theorem tmod_bd (m : Int) : -10000 < m.tmod 10000 ∧ m.tmod 10000 < 10000 := by
  rcases Int.le_total 0 m with h | h
  · rw [Int.tmod_eq_emod_of_nonneg h]; omega
  · obtain ⟨k, rfl⟩ : ∃ k, m = -k := ⟨-m, by omega⟩
    rw [Int.neg_tmod, Int.tmod_eq_emod_of_nonneg (by omega)]; omega
theorem dgt_eq (m : Int) : dgt m = (m.natAbs : Int) % 10000 := by
  unfold dgt
  rcases Int.le_total 0 m with h | h
  · rw [Int.tmod_eq_emod_of_nonneg h]; split <;> omega
  · obtain ⟨k, rfl⟩ : ∃ k, m = -k := ⟨-m, by omega⟩
    rw [Int.neg_tmod, Int.tmod_eq_emod_of_nonneg (by omega)]; split <;> omega
theorem tdiv_abs (m : Int) : ((m.tdiv 10000).natAbs : Int) = (m.natAbs : Int) / 10000 := by
  rcases Int.le_total 0 m with h | h
  · rw [Int.tdiv_eq_ediv_of_nonneg h]; omega
  · obtain ⟨k, rfl⟩ : ∃ k, m = -k := ⟨-m, by omega⟩
    rw [Int.neg_tdiv, Int.tdiv_eq_ediv_of_nonneg (by omega)]; omega
theorem tdiv_sign (m : Int) : (0 ≤ m → 0 ≤ m.tdiv 10000) ∧ (m ≤ 0 → m.tdiv 10000 ≤ 0) := by
  constructor
  · intro h; rw [Int.tdiv_eq_ediv_of_nonneg h]; omega
  · intro h
    obtain ⟨k, rfl⟩ : ∃ k, m = -k := ⟨-m, by omega⟩
    rw [Int.neg_tdiv, Int.tdiv_eq_ediv_of_nonneg (by omega)]; omega
theorem NI.step {n m : Int} {L : List Int} (h : NI n m L) (hm : m ≠ 0) : NI n (m.tdiv 10000) (L ++ [dgt m]) := by
  have hd := dgt_eq m
  have ht := tdiv_abs m
  have hs := tdiv_sign m
  have hl : L.length < 5 := by
    rcases Nat.lt_or_ge L.length 5 with h5 | h5
    · exact h5
    · have := h.lim; rw [show 5 - L.length = 0 by omega] at this; simp at this; omega
  refine ⟨?_, ?_, fun hn => hs.1 (h.s0 hn), fun hn => hs.2 (h.s1 hn), by simp; omega, ?_, ?_⟩
  · intro d hd'
    rcases List.mem_append.1 hd' with hd' | hd'
    · exact h.dig d hd'
    · simp at hd'; subst hd'; omega
  · rw [h.sum, val_append, ht, hd]
    simp only [List.length_append, List.length_cons, List.length_nil, val, Int.pow_succ, Int.mul_zero, Int.add_zero]
    have : (m.natAbs : Int) = (m.natAbs : Int) % 10000 + 10000 * ((m.natAbs : Int) / 10000) := by omega
    generalize (m.natAbs : Int) % 10000 = a at *
    generalize (m.natAbs : Int) / 10000 = b at *
    rw [this]; grind
  · have h1 := h.lim
    rw [show 5 - L.length = (5 - (L ++ [dgt m]).length) + 1 by simp; omega, Int.pow_succ] at h1
    rw [ht]; omega
  · intro h0 hne
    have h2 : (m.natAbs : Int) / 10000 = 0 := by rw [← ht, h0]; rfl
    simp
    rw [hd]; omega
theorem NI.bd {n m : Int} {L : List Int} (h : NI n m L) (h0 : -9223372036854775808 ≤ n) (h1 : n ≤ 9223372036854775807) : -9223372036854775808 ≤ m ∧ m ≤ 9223372036854775807 := by
  have a := h.sum
  have b := h.s0
  have c := h.s1
  have d := val_nonneg h.dig
  have e : (m.natAbs : Int) ≤ 10000 ^ L.length * (m.natAbs : Int) := by
    have hp : (0 : Int) < 10000 ^ L.length := Int.pow_pos (by decide)
    have := Int.mul_le_mul_of_nonneg_right (show (1 : Int) ≤ 10000 ^ L.length by omega) (show (0 : Int) ≤ (m.natAbs : Int) by omega)
    omega
  omega
theorem NI.done {n : Int} {L : List Int} (h : NI n 0 L) : Dig L ∧ Nz L ∧ val L = n.natAbs := ⟨h.dig, h.nz rfl, by have := h.sum; simp at this; omega⟩
theorem getD_dig {L : List Int} (h : Dig L) (k : Nat) : 0 ≤ L.getD k 0 ∧ L.getD k 0 < 10000 := by
  rw [List.getD_eq_getElem?_getD]
  rcases Nat.lt_or_ge k L.length with hk | hk
  · rw [List.getElem?_eq_getElem hk]; exact h _ (List.getElem_mem hk)
  · rw [List.getElem?_eq_none hk]; simp
theorem getD_out {L : List Int} {k : Nat} (h : L.length ≤ k) : L.getD k 0 = 0 := by rw [List.getD_eq_getElem?_getD, List.getElem?_eq_none h]; rfl
theorem val_take_succ (L : List Int) (k : Nat) : val (L.take (k + 1)) = val (L.take k) + 10000 ^ k * L.getD k 0 := by
  rcases Nat.lt_or_ge k L.length with hk | hk
  · rw [List.take_succ_eq_append_getElem hk, val_append, List.length_take, Nat.min_eq_left (by omega), List.getD_eq_getElem?_getD, List.getElem?_eq_getElem hk]
    simp [val]
  · rw [getD_out hk, List.take_of_length_le hk, List.take_of_length_le (by omega)]; simp
/-- adding (or taking away) digit by digit: after k rounds -/
structure AddI (s : Bool) (X Y : List Int) (k : Nat) (c : Int) (L : List Int) : Prop where
  dig : Dig L
  len : L.length = k
  sum : val L + 10000 ^ k * c = val (X.take k) + (if s then val (Y.take k) else - val (Y.take k))
  c0 : -1 ≤ c
  c1 : c ≤ 1
  cs : s = true → 0 ≤ c
  cd : s = false → c ≤ 0
theorem AddI.start (s : Bool) (X Y : List Int) : AddI s X Y 0 0 [] := ⟨(by intro d hd; cases hd), rfl, by cases s <;> simp [val], by omega, by omega, fun _ => by omega, fun _ => by omega⟩
theorem AddI.step {s : Bool} {X Y : List Int} {k : Nat} {c : Int} {L : List Int} (h : AddI s X Y k c L) (d c' : Int) (h0 : 0 ≤ d) (h1 : d < 10000) (g0 : -1 ≤ c') (g1 : c' ≤ 1)
    (gs : s = true → 0 ≤ c') (gd : s = false → c' ≤ 0) (he : d + 10000 * c' = c + X.getD k 0 + (if s then Y.getD k 0 else - Y.getD k 0)) : AddI s X Y (k + 1) c' (L ++ [d]) := by
  refine ⟨?_, by simp [h.len], ?_, g0, g1, gs, gd⟩
  · intro x hx
    rcases List.mem_append.1 hx with hx | hx
    · exact h.dig x hx
    · simp at hx; subst hx; omega
  · rw [val_append, val_take_succ, val_take_succ, h.len]
    have h3 := h.sum
    simp only [val, Int.mul_zero, Int.add_zero, Int.pow_succ]
    generalize (10000 : Int) ^ k = p at *
    generalize X.getD k 0 = x at *
    generalize Y.getD k 0 = y at *
    have : p * (d + 10000 * c') = p * (c + x + (if s then y else -y)) := by rw [he]
    cases s <;> simp at * <;> grind
theorem AddI.done {s : Bool} {X Y : List Int} {k : Nat} {c : Int} {L : List Int} (h : AddI s X Y k c L) (hx : X.length ≤ k) (hy : Y.length ≤ k) (hc : c ≤ 0) (hge : s = false → val Y ≤ val X) :
    val L = val X + (if s then val Y else - val Y) := by
  have h1 := h.sum
  rw [List.take_of_length_le hx, List.take_of_length_le hy] at h1
  have h2 := val_lt h.dig
  rw [h.len] at h2
  have h3 := val_nonneg h.dig
  have hp : (0 : Int) < 10000 ^ k := Int.pow_pos (by decide)
  have h4 : c = 0 := by
    cases s
    · have := hge rfl
      have h5 := h.c0
      by_cases h6 : c = -1
      · subst h6; simp at h1; omega
      · omega
    · have := h.cs rfl; omega
  subst h4
  simpa using h1
def mu (M : Nat) (k c : Int) : Nat := 2 * (M + 1 - k.toNat) + (if 0 < c then 1 else 0)
theorem mu_lt {M k : Nat} {c c' : Int} (hk : k ≤ M) : mu M ((k : Int) + 1) c' < mu M (k : Int) c := by
  unfold mu
  rw [show ((k : Int) + 1).toNat = k + 1 by omega, show (k : Int).toNat = k by omega]
  split <;> split <;> omega
end Go.Proofs.YtnpeokgjfnobmaaDoor.Z

/-
  The reference's whole numbers: trim.
-/
namespace Go.Proofs.YtnpeokgjfnobmaaDoor
set_option linter.unusedVariables false
set_option linter.unusedSimpArgs false
open Go.RowKit
set_option linter.unusedVariables false
namespace ZC
open Z
/-- a sign and a slice that hold the whole number 'z': its digits by ten thousand, with no nought at the end -/
def ZL (w : World) (b : Bool) (A : Option Addr) (n c : Nat) (z : Int) : Prop :=
  b = decide (z < 0) ∧ ∃ L, n = L.length ∧ Sl .i64 w (.slice A n c) L ∧ Dig L ∧ Nz L ∧ val L = z.natAbs
/-- the value 'v' holds the whole number 'z' -/
def ZV (w : World) (v : Value) (z : Int) : Prop := ∃ b A n c, v = .agg #[.bool b, .slice A n c] ∧ ZL w b A n c z
theorem ZL.keep {w w' : World} {b A n c z} (h : ZL w b A n c z) (hk : ∀ L, Sl .i64 w (.slice A n c) L → Sl .i64 w' (.slice A n c) L) : ZL w' b A n c z := by
  obtain ⟨e, L, hn, hs, h⟩ := h
  exact ⟨e, L, hn, hk L hs, h⟩
theorem ZL.below {w w' : World} {b A n c z} (h : ZL w b A n c z) (hb : Below w.heap.size w w') : ZL w' b A n c z := h.keep fun _ hs => hs.below hb
theorem ZL.alloc {w : World} {b A n c z} (h : ZL w b A n c z) (o : Obj) : ZL (w.alloc o) b A n c z := h.keep fun _ hs => hs.alloc o
theorem ZL.drew {w : World} {b A n c z} (h : ZL w b A n c z) : ZL w.drew b A n c z := h
theorem ZL.drewN {w : World} {b A n c z} (h : ZL w b A n c z) (k : Nat) : ZL (w.drewN k) b A n c z := h
theorem ZL.setCell {w : World} {b A n c z} (h : ZL w b A n c z) {p : Addr} {u : Value} (hu : w.cell? p = some u) (hk : ∀ z, u ≠ .int .i64 z) (x : Value) : ZL (w.setCell p x) b A n c z :=
  h.keep fun _ hs => hs.setCell hu hk x
theorem ZL.v {w : World} {b A n c z} (h : ZL w b A n c z) : ZV w (.agg #[.bool b, .slice A n c]) z := ⟨b, A, n, c, rfl, h⟩
theorem ZL.nil (w : World) (A : Option Addr) (c : Nat) : ZL w false A 0 c 0 := ⟨rfl, [], rfl, Sl.nil _ _ _ _, (by intro d h; cases h), fun h => absurd rfl h, rfl⟩
theorem ZL.len {w : World} {b A n c z} {N : Nat} (h : ZL w b A n c z) (hz : z.natAbs < big N) : n ≤ N := by
  obtain ⟨e, L, hn, hs, hd, hnz, hv⟩ := h
  rw [hn]; exact len_of hd hnz hv hz
theorem ZL.of {w : World} {b : Bool} {A n c} {z : Int} {L : List Int} (hb : b = decide (z < 0)) (hn : n = L.length) (hs : Sl .i64 w (.slice A n c) L) (hd : Dig L) (hz : Nz L) (hv : val L = z.natAbs) : ZL w b A n c z := ⟨hb, L, hn, hs, hd, hz, hv⟩
/-- an empty slice, or one in a block from number B on -/
def Fr (B : Nat) (A : Option Addr) (n : Nat) : Prop := n = 0 ∨ ∃ ad, A = some ad ∧ B ≤ ad.block
theorem Fr.mono {B B' : Nat} {A : Option Addr} {n : Nat} (h : Fr B' A n) (hB : B ≤ B') : Fr B A n := h.imp id fun ⟨ad, e, h⟩ => ⟨ad, e, Nat.le_trans hB h⟩
theorem Fr.shrink {B : Nat} {A : Option Addr} {n m : Nat} (h : Fr B A n) (hm : m ≤ n) : Fr B A m := h.imp (fun h => by omega) id
/-- a whole number whose digits lie in a block from number B on -/
def ZLF (w : World) (B : Nat) (b : Bool) (A : Option Addr) (n c : Nat) (z : Int) : Prop := ZL w b A n c z ∧ Fr B A n
theorem ZLF.zl {w : World} {B b A n c z} (h : ZLF w B b A n c z) : ZL w b A n c z := h.1
theorem ZLF.fr {w : World} {B b A n c z} (h : ZLF w B b A n c z) : Fr B A n := h.2
theorem ZLF.v {w : World} {B b A n c z} (h : ZLF w B b A n c z) : ZV w (.agg #[.bool b, .slice A n c]) z := h.1.v
theorem ZLF.below {w w' : World} {B b A n c z} (h : ZLF w B b A n c z) (hb : Below w.heap.size w w') : ZL w' b A n c z := h.1.below hb
/-- a whole number in new memory -/
def RetZ (w : World) (z : Int) (e : Ending) (w' : World) : Prop := ∃ v, e = .returned v ∧ (∃ b A n c, v = .agg #[.bool b, .slice A n c] ∧ ZLF w' w.heap.size b A n c z) ∧ Below w.heap.size w w'
/-- a whole number, wherever -/
def RetZ0 (w : World) (z : Int) (e : Ending) (w' : World) : Prop := ∃ v, e = .returned v ∧ ZV w' v z ∧ Below w.heap.size w w'
/-- a whole number in the same slice as was handed in, maybe shorter -/
def RetT (w : World) (A : Option Addr) (n c : Nat) (z : Int) (e : Ending) (w' : World) : Prop := ∃ b m, e = .returned (.agg #[.bool b, .slice A m c]) ∧ m ≤ n ∧ ZL w' b A m c z ∧ Below w.heap.size w w'
theorem trim_end {w W : World} {neg nb : Bool} {A : Option Addr} {n c k : Nat} {L : List Int} (hs : Sl .i64 w (.slice A n c) L) (hb : Below w.heap.size w W) (hd : Dig L) (hn : n = L.length) (hk : k ≤ n)
    (ht : Tz L k) (hz : k = 0 ∨ L.getD (k - 1) 0 ≠ 0) (hnb : nb = (neg && decide (0 < k))) : RetT w A n c (sg neg (val L)) (.returned (.agg #[.bool nb, .slice A k c])) W := by
  subst hn
  have hnz := Nz_take hk hz
  have hv := val_take ht
  have hd' := hd.take k
  refine ⟨nb, k, rfl, hk, ⟨?_, L.take k, by rw [List.length_take, Nat.min_eq_left hk], (hs.below hb).take k hk, hd', hnz, by rw [hv, sg_abs neg _ (val_nonneg hd)]⟩, hb⟩
  rcases Nat.eq_zero_or_pos k with rfl | hk0
  · rw [← hv]; simp [hnb, val, sg]
  · have hne : L.take k ≠ [] := by
      intro h; have := congrArg List.length h; simp at this; rcases this with h | h
      · omega
      · subst h; simp at hk; omega
    have hp := val_pos hd' hnz hne
    rw [hv] at hp
    rw [sg_lt neg _ hp, hnb]; simp [hk0]
theorem trim_c (neg : Bool) (A : Option Addr) (n c : Nat) (L : List Int) (w : World) (hs : Sl .i64 w (.slice A n c) L) (hd : Dig L) (hn : L.length ≤ 1000000000) :
    Calls Tryd.prog 64 #[.agg #[.bool neg, .slice A n c]] w (RetT w A n c (sg neg (val L))) := by
  obtain ⟨A', c', e, hc, hcell⟩ := hs.open_
  injection e with e1 e2 e3
  subst e1
  subst e3
  rw [← e2] at hn hc
  have HN := Lib.hid e2
  clear e2
  go_enter Tryd.func64, Tryd.ntmps64
  go_wp2
  have hs2 := (hs.alloc (.cells #[.bool neg, .slice A n c] 34)).alloc (.cells #[.bool false, .slice none 0 0] 34)
  have HS := Lib.hid hs2
  have HS0 := Lib.hid hs
  have HD := Lib.hid hd
  clear hs hs2 hcell hd
  go_loop [3] (fun i => ∃ k : Nat, k ≤ n ∧ i = .int .i64 k ∧ Tz L k) (fun i => (intOf i).toNat)
  case atStart => exact ⟨n, Nat.le_refl _, rfl, by rw [HN.out]; exact Tz_all L⟩
  case round =>
    obtain ⟨k, hk, rfl, htz⟩ := hrel
    have HT := Lib.hid htz
    clear htz
    by_cases hk0 : 0 < k
    · obtain ⟨ad, c', e, hc', hb, hcell⟩ := HS.out.at_ (k - 1) (by rw [← HN.out]; omega)
      injection e with e1 e2 e3
      subst e1
      clear e2 e3 hc' c' hb
      obtain ⟨z, hz⟩ : ∃ z, L.getD (k - 1) 0 = z := ⟨_, rfl⟩
      rw [hz] at hcell
      have HZ := Lib.hid hz
      clear hz
      by_cases h0 : z = 0
      · have h1 : (z == 0) = true := by simp [h0]
        clear h0
        go_wp2
        go_round
        case rel => exact ⟨k - 1, by omega, by go_num, Tz_pred L k hk0 (by rw [← HN.out]; exact hk) (by rw [HZ.out]; simpa using h1) HT.out⟩
        case measure => simp [intOf]; omega
      · have h1 : (z == 0) = false := by simp [h0]
        clear h0
        have h3 : decide (0 < (k : Int)) = true := by simpa using hk0
        cases neg
        · go_wp2
          go_region
          go_wp2
          exact bodyPost_ret (v := .agg #[.bool false, .slice (some ad) k c]) (by simp [results, Tryd.results64, go_sem]) rfl
            (trim_end HS0.out (((Below.refl _ _).alloc (Nat.le_refl _) _).alloc (by simp) _).drew HD.out HN.out hk HT.out (.inr (by rw [HZ.out]; simpa using h1)) (by simp [hk0]))
        · go_wp2
          go_region
          go_wp2
          exact bodyPost_ret (v := .agg #[.bool true, .slice (some ad) k c]) (by simp [results, Tryd.results64, go_sem]) rfl
            (trim_end HS0.out (((Below.refl _ _).alloc (Nat.le_refl _) _).alloc (by simp) _).drew HD.out HN.out hk HT.out (.inr (by rw [HZ.out]; simpa using h1)) (by simp [hk0]))
    · obtain rfl : k = 0 := by omega
      cases neg
      · go_wp2
        go_region
        go_wp2
        exact bodyPost_ret (v := .agg #[.bool false, .slice A 0 c]) (by simp [results, Tryd.results64, go_sem]) rfl
          (trim_end HS0.out (((Below.refl _ _).alloc (Nat.le_refl _) _).alloc (by simp) _).drew HD.out HN.out hk HT.out (.inl rfl) (by simp [hk0]))
      · go_wp2
        go_region
        go_wp2
        exact bodyPost_ret (v := .agg #[.bool false, .slice A 0 c]) (by simp [results, Tryd.results64, go_sem]) rfl
          (trim_end HS0.out (((Below.refl _ _).alloc (Nat.le_refl _) _).alloc (by simp) _).drew HD.out HN.out hk HT.out (.inl rfl) (by simp [hk0]))
theorem drew2 (w : World) (a b : Nat) : ∃ n, (w.drewN a).drewN b = w.drewN n := ⟨a + b, by rw [World.drewN_drewN]⟩
theorem drew3 (w : World) (a b c : Nat) : ∃ n, ((w.drewN a).drewN b).drewN c = w.drewN n := ⟨a + b + c, by rw [World.drewN_drewN, World.drewN_drewN, Nat.add_assoc]⟩
def RetQ (w : World) (v : Value) (e : Ending) (w' : World) : Prop := e = .returned v ∧ ∃ n, w' = w.drewN n
theorem size_c (s t : Value) (L M : List Int) (w : World) (hs : Sl .i64 w s L) (ht : Sl .i64 w t M) (hL : Dig L) (hM : Dig M) (nL : Nz L) (nM : Nz M) (bL : L.length ≤ 1000000000) (bM : M.length ≤ 1000000000) :
    Calls Tryd.prog 62 #[s, t] w (RetQ w (.int .i64 (cmpv (val L) (val M)))) := by
  obtain ⟨n, hn⟩ : ∃ n, n = L.length := ⟨_, rfl⟩
  obtain ⟨m, hm⟩ : ∃ m, m = M.length := ⟨_, rfl⟩
  obtain ⟨A, c, rfl, hc, hcL⟩ := hs.open_
  obtain ⟨B, d, rfl, hd, hcM⟩ := ht.open_
  rw [← hn] at bL hc hcL ⊢
  rw [← hm] at bM hd hcM ⊢
  obtain ⟨r, hr⟩ : ∃ r, r = cmpv (val L) (val M) := ⟨_, rfl⟩
  rw [← hr]
  have HR := Lib.hid hr
  have HN := Lib.hid hn
  have HM := Lib.hid hm
  have CL := Lib.hid hcL
  have CM := Lib.hid hcM
  have DL := Lib.hid hL
  have DM := Lib.hid hM
  have NL := Lib.hid nL
  have NM := Lib.hid nM
  clear hr hn hm hcL hcM hL hM nL nM hs ht
  by_cases h1 : n < m
  · have e1 : ((n : Int) != (m : Int)) = true := by rw [bne_iff_ne]; omega
    go_enter Tryd.func62, Tryd.ntmps62
    go_wp2
    go_ret
    exact ⟨ret_int (by rw [HR.out, cmpv_lt (val_len DL.out DM.out NM.out (by rw [← HN.out, ← HM.out]; exact h1))]), 0, rfl⟩
  · by_cases h2 : m < n
    · have e1 : ((n : Int) != (m : Int)) = true := by rw [bne_iff_ne]; omega
      go_enter Tryd.func62, Tryd.ntmps62
      go_wp2
      go_ret
      exact ⟨ret_int (by rw [HR.out, cmpv_gt (val_len DM.out DL.out NL.out (by rw [← HN.out, ← HM.out]; exact h2))]), 0, rfl⟩
    · obtain rfl : n = m := by omega
      have e1 : ((n : Int) != (n : Int)) = false := by simp
      clear h1 h2
      go_enter Tryd.func62, Tryd.ntmps62
      go_wp2
      go_loopw [5] (fun i wr => ∃ k : Nat, k ≤ n ∧ i = .int .i64 ((k : Int) - 1) ∧ Hid (L.drop k = M.drop k) ∧ ∃ q, wr = w.drewN q) (fun i _ => (intOf i + 1).toNat)
      case atStart => exact ⟨n, Nat.le_refl _, rfl, by have a := HN.out; have b := HM.out; show L.drop n = M.drop n; rw [List.drop_of_length_le (by omega), List.drop_of_length_le (by omega)], 0, rfl⟩
      case round =>
        obtain ⟨k, hk, rfl, hdr, q, rfl⟩ := hrel
        by_cases hk0 : 0 < k
        · obtain ⟨ad, rfl, hb, hca⟩ := CL.out (k - 1) (by omega)
          obtain ⟨ad', rfl, hb', hcb⟩ := CM.out (k - 1) (by omega)
          obtain ⟨x, hx⟩ : ∃ x, L.getD (k - 1) 0 = x := ⟨_, rfl⟩
          obtain ⟨y, hy⟩ : ∃ y, M.getD (k - 1) 0 = y := ⟨_, rfl⟩
          rw [hx] at hca
          rw [hy] at hcb
          have HX := Lib.hid hx
          have HY := Lib.hid hy
          clear hx hy hb hb'
          have kL : k - 1 < L.length := by have := HN.out; omega
          have kM : k - 1 < M.length := by have := HM.out; omega
          have hdr' : Hid (L.drop (k - 1 + 1) = M.drop (k - 1 + 1)) := by rw [show k - 1 + 1 = k by omega]; exact hdr
          by_cases h1 : x < y
          · go_wp2
            go_quiet (fail)
            go_wp2
            go_ret
            exact ⟨ret_int (by rw [HR.out, cmpv_lt (val_at_lt DL.out DM.out kL kM hdr' (by rw [HX.out, HY.out]; exact h1))]), drew2 _ _ _⟩
          · by_cases h2 : y < x
            · go_wp2
              go_quiet (fail)
              go_wp2
              go_quiet (fail)
              go_wp2
              go_ret
              exact ⟨ret_int (by rw [HR.out, cmpv_gt (val_at_lt DM.out DL.out kM kL hdr'.symm (by rw [HX.out, HY.out]; exact h2))]), drew3 _ _ _ _⟩
            · go_wp2
              go_quiet (fail)
              go_wp2
              go_quiet (fail)
              go_wp2
              go_roundw
              case rel => exact ⟨k - 1, by omega, by go_num, drop_same kL kM hdr' (by rw [HX.out, HY.out]; omega), _, rfl⟩
              case measure => simp [intOf]; omega
        · obtain rfl : k = 0 := by omega
          go_wp2
          go_ret
          exact ⟨ret_int (by rw [HR.out, cmpv_eq (by simpa using congrArg val hdr)]), _, rfl⟩
theorem below_drewN {B : Nat} {a w : World} (h : Below B a w) (n : Nat) : Below B a (w.drewN n) := ⟨h.os, h.tape, h.output, h.size, h.block⟩
theorem ZCmp_c (va vb : Value) (a b : Int) (w : World) (ha : ZV w va a) (hb : ZV w vb b) (bA : a.natAbs < big 1000000) (bB : b.natAbs < big 1000000) :
    Calls Tryd.prog 16 #[va, vb] w fun e w' => e = .returned (.int .i64 (cmpv a b)) ∧ Below w.heap.size w w' := by
  obtain ⟨na, A, n, c, rfl, ha⟩ := ha
  obtain ⟨nb, B, m, d, rfl, hb⟩ := hb
  have ha' := (ha.alloc (.cells #[.bool na, .slice A n c] 34)).alloc (.cells #[.bool nb, .slice B m d] 34)
  have hb' := (hb.alloc (.cells #[.bool na, .slice A n c] 34)).alloc (.cells #[.bool nb, .slice B m d] 34)
  have lL := ha.len bA
  have lM := hb.len bB
  obtain ⟨hna, L, hn, hs, dL, nL, vL⟩ := ha'
  obtain ⟨hnb, M, hm, ht, dM, nM, vM⟩ := hb'
  have SZ := Lib.hid (size_c (.slice A n c) (.slice B m d) L M _ hs ht dL dM nL nM (by omega) (by omega))
  have cb := cmpv_bd (val L) (val M)
  have fin : ∀ r, r = (if na then (if nb then - cmpv (val L) (val M) else -1) else (if nb then 1 else cmpv (val L) (val M))) → r = cmpv a b := by
    intro r hr
    rw [hr, hna, hnb, vL, vM]
    unfold cmpv
    by_cases h1 : a < 0 <;> by_cases h2 : b < 0 <;> simp [h1, h2] <;> (repeat (first | omega | split))
  have FIN := Lib.hid fin
  clear hna hnb fin vL vM dL dM nL nM lL lM bA bB hs ht hn hm ha hb
  cases na <;> cases nb
  all_goals
    go_enter Tryd.func16, Tryd.ntmps16
    go_wp2_with (first | (go_at_call 62; (with_reducible refine (SZ.out).mono ?_); rintro e w' ⟨rfl, n, rfl⟩))
    go_ret
    exact ⟨ret_int (FIN.out _ (by simp)), by repeat (first | exact Below.refl _ _ | apply below_drewN | apply Below.drew | refine Below.alloc ?_ (by simp) _)⟩
end ZC
end Go.Proofs.YtnpeokgjfnobmaaDoor

/-
  The reference's whole numbers: the other sign, without a sign, the sign, a number.
-/
namespace Go.Proofs.YtnpeokgjfnobmaaDoor
set_option linter.unusedVariables false
set_option linter.unusedSimpArgs false
open Go.RowKit
set_option linter.unusedVariables false
theorem bcell {W w1 : World} (hb : Below W.heap.size W w1) : (∀ b o, b < W.heap.size → w1.cell? ⟨b, o, none⟩ = W.cell? ⟨b, o, none⟩) ∧ (∀ b o, b < W.heap.size → w1.frozen? ⟨b, o, none⟩ = W.frozen? ⟨b, o, none⟩) :=
  ⟨fun b o h => hb.cell (p := ⟨b, o, none⟩) h, fun b o h => hb.frozen (p := ⟨b, o, none⟩) h⟩
namespace ZC
open Z
theorem RetZ0.cell {w w1 : World} {z : Int} {B : Nat} {A A0 : Option Addr} {n n0 c c0 : Nat} {b b0 : Bool}
    (hv : ZL w1 b A n c z) (hB : w.heap.size ≤ B)
    (h0 : w1.cell? ⟨B, 0, none⟩ = some (.bool b0)) (h1 : w1.cell? ⟨B, 1, none⟩ = some (.slice A0 n0 c0)) (hb : Below w.heap.size w w1) :
    RetZ0 w z (.returned (.agg #[.bool b, .slice A n c])) ((w1.setCell ⟨B, 0, none⟩ (.bool b)).setCell ⟨B, 1, none⟩ (.slice A n c)) :=
  ⟨_, rfl, ((hv.setCell h0 (fun z h => by cases h) _).setCell (p := ⟨B, 1, none⟩) (u := .slice A0 n0 c0) (by rw [World.cell?_setCell_other _ _ _ _ (by simp)]; exact h1) (fun z h => by cases h) _).v, (hb.setCell hB _).setCell hB _⟩
theorem RetZ.cell {w w1 : World} {z : Int} {B B0 : Nat} {A A0 : Option Addr} {n n0 c c0 : Nat} {b b0 : Bool}
    (hv : ZLF w1 B0 b A n c z) (hB0 : w.heap.size ≤ B0) (hB : w.heap.size ≤ B)
    (h0 : w1.cell? ⟨B, 0, none⟩ = some (.bool b0)) (h1 : w1.cell? ⟨B, 1, none⟩ = some (.slice A0 n0 c0)) (hb : Below w.heap.size w w1) :
    RetZ w z (.returned (.agg #[.bool b, .slice A n c])) ((w1.setCell ⟨B, 0, none⟩ (.bool b)).setCell ⟨B, 1, none⟩ (.slice A n c)) :=
  ⟨_, rfl, ⟨b, A, n, c, rfl, ((hv.1.setCell h0 (fun z h => by cases h) _).setCell (p := ⟨B, 1, none⟩) (u := .slice A0 n0 c0) (by rw [World.cell?_setCell_other _ _ _ _ (by simp)]; exact h1) (fun z h => by cases h) _), hv.2.mono hB0⟩, (hb.setCell hB _).setCell hB _⟩
theorem ZNeg_c (va : Value) (a : Int) (w : World) (ha : ZV w va a) (bA : a.natAbs < big 1000000) :
    Calls Tryd.prog 36 #[va] w (RetZ0 w (-a)) := by
  obtain ⟨b, A, n, c, rfl, ha⟩ := ha
  have lL := ha.len bA
  have ha' := (ha.alloc (.cells #[.bool b, .slice A n c] 34)).alloc (.cells #[.bool false, .slice none 0 0] 34)
  obtain ⟨hb, L, hn, hs, dL, nL, vL⟩ := ha'
  have tr := trim_c (!b) A n c L _ hs dL (by omega)
  rw [show sg (!b) (val L) = -a by rw [vL, hb]; by_cases h : a < 0 <;> simp [sg, h] <;> omega] at tr
  have TR := Lib.hid tr
  clear hs dL nL lL bA hn vL tr hb ha
  go_enter Tryd.func36, Tryd.ntmps36
  go_wp2_with (first | (go_at_call 64; (with_reducible refine (TR.out).mono ?_); rintro e w1 ⟨b1, n1, rfl, hm1, hv1, hb1⟩ ; obtain ⟨hc1, hf1⟩ := bcell hb1 ; have hz1 := hb1.size))
  have bw : Below w.heap.size w w1 := (((Below.refl _ _).alloc (Nat.le_refl _) _).alloc (by simp) _).trans (hb1.mono (by simp; omega))
  have c0 : w1.cell? ⟨w.heap.size + 1, 0, none⟩ = some (.bool false) := by rw [hb1.cell (by simp)]; simp [go_sem]
  have c1' : w1.cell? ⟨w.heap.size + 1, 1, none⟩ = some (.slice none 0 0) := by rw [hb1.cell (by simp)]; simp [go_sem]
  exact bodyPost_ret (v := .agg #[.bool b1, .slice A n1 c]) (by simp [results, Tryd.results36, go_sem, c0, c1']) rfl (RetZ0.cell hv1 (by omega) c0 c1' bw)
theorem ZAbs_c (va : Value) (a : Int) (w : World) (ha : ZV w va a) :
    Calls Tryd.prog 65 #[va] w (RetZ0 w (a.natAbs : Int)) := by
  obtain ⟨b, A, n, c, rfl, ha⟩ := ha
  have hb : ZL w false A n c (a.natAbs : Int) := ⟨by simp, by obtain ⟨_, L, h⟩ := ha; exact ⟨L, by simpa using h⟩⟩
  have HS := ((hb.alloc (.cells #[.bool b, .slice A n c] 34)).alloc (.cells #[.bool false, .slice A n c] 34))
  go_enter Tryd.func65, Tryd.ntmps65
  go_wp2
  exact bodyPost_ret (v := .agg #[.bool false, .slice A n c]) (by simp [results, Tryd.results65, go_sem]) rfl
    ⟨_, rfl, HS.v, (((Below.refl _ _).alloc (Nat.le_refl _) _).alloc (by simp) _)⟩
end ZC
end Go.Proofs.YtnpeokgjfnobmaaDoor

/-
  Words for memory that a call makes: a block known whole; a slice of one-cell integers of the call's own; one number appended to it; make. (The lemmas on 'Blk' are after the kit's page of words to copy.)
-/
namespace Go.Proofs.YtnpeokgjfnobmaaDoor
set_option linter.unusedVariables false
set_option linter.unusedSimpArgs false
open Go.RowKit
set_option linter.unusedVariables false
def Blk (w : World) (g : Nat) (t : TypeId) (cs : Array Value) : Prop := w.heap[g]? = some (.cells cs t (0, 0))
section
variable {w w' : World} {g : Nat} {t : TypeId} {cs : Array Value}
theorem Blk.lt (h : Blk w g t cs) : g < w.heap.size := by
  rcases Nat.lt_or_ge g w.heap.size with hlt | hge
  · exact hlt
  · unfold Blk at h; rw [Array.getElem?_eq_none hge] at h; cases h
theorem Blk.cell (h : Blk w g t cs) (i : Nat) : w.cell? ⟨g, i, none⟩ = cs[i]? := cell_of_row w g i cs t (0, 0) h
theorem Blk.at_ (h : Blk w g t cs) (i : Nat) {v : Value} (hv : cs[i]? = some v) : w.cell? ⟨g, i, none⟩ = some v := (h.cell i).trans hv
theorem Blk.frozen (h : Blk w g t cs) (i : Nat) : w.frozen? ⟨g, i, none⟩ = false := by
  unfold Blk at h
  simp [World.frozen?, h]
theorem Blk.new (w : World) (t : TypeId) (cs : Array Value) : Blk (w.alloc (.cells cs t)) w.heap.size t cs := heap_alloc_new w _
theorem Blk.drew (h : Blk w g t cs) : Blk w.drew g t cs := h
theorem Blk.drewN (h : Blk w g t cs) (n : Nat) : Blk (w.drewN n) g t cs := h
theorem Blk.alloc (h : Blk w g t cs) (o : Obj) : Blk (w.alloc o) g t cs := (Below.heap_alloc w o g h.lt).trans h
theorem Blk.set_ (h : Blk w g t cs) (i : Nat) (u : Value) : Blk (w.setCell ⟨g, i, none⟩ u) g t (cs.setIfInBounds i u) := by
  unfold Blk at h ⊢
  simp [World.setCell, Array.getElem?_modify, h]
theorem Blk.far (h : Blk w g t cs) {p : Addr} (hp : g ≠ p.block) (u : Value) : Blk (w.setCell p u) g t cs := (Below.heap_setCell w p u g hp).trans h
theorem Blk.below {B : Nat} (h : Blk w g t cs) (hb : Below B w w') (hg : g < B) : Blk w' g t cs := (hb.block g hg).trans h
theorem Blk.grown {row : Option Nat} (h : Blk w g t cs) (hb : w.grownBy w' row) (hg : some g ≠ row) : Blk w' g t cs := (hb.block g h.lt hg).trans h
theorem Blk.ne_ {g' : Nat} {t' : TypeId} {cs' : Array Value} (h : Blk w g t cs) (h' : Blk w g' t' cs') (hne : t ≠ t') : g ≠ g' := by
  rintro rfl
  unfold Blk at h h'
  rw [h] at h'
  injection h' with h'
  injection h' with _ ht
  exact hne ht
theorem own_blk_ne {base : Nat} {e : TypeId} {size n : Nat} {v : Value} {xs : List Value} (h : w.ownsRow base e size v n xs) (hg : Blk w g t cs) (hne : e ≠ t) : some g ≠ v.ownBlock := by
  rcases h.2 with ⟨rfl, _⟩ | ⟨g', cap, cur, rfl, _, hh, _⟩
  · simp [Value.ownBlock]
  · intro he
    have : g' = g := by simpa [Value.ownBlock] using he.symm
    subst this
    exact Blk.ne_ (t := e) hh hg hne rfl
end

/-- a slice type, its element type, and the integers' kind -/
structure Elem (t e : TypeId) (k : IntKind) : Prop where
  ht : Tryd.prog.underlying t = some (.slice e)
  info : ∃ i, Tryd.prog.info? e = some i ∧ i.zero = some (.int k 0) ∧ i.size = 1 ∧ i.bytes ≤ 8
theorem Elem.of {t e : TypeId} {k : IntKind} {b : Nat} (ht : Tryd.prog.underlying t = some (.slice e)) (h : (Tryd.prog.info? e).map (fun i => (i.zero, i.size, i.bytes)) = some (some (.int k 0), 1, b)) (hb : b ≤ 8) : Elem t e k := by
  obtain ⟨i, hi, h0, h1, h2⟩ := info_parts h
  exact ⟨ht, i, hi, h0, h1, by omega⟩
/-- the call's own slice 'v' (its block's number is from 'base' on) holds the integers 'L' -/
def Own (k : IntKind) (e : TypeId) (w : World) (base : Nat) (v : Value) (L : List Int) : Prop := w.ownsRow base e 1 v L.length (L.map (Value.int k))
section
variable {k : IntKind} {e : TypeId} {w w' : World} {base : Nat} {v : Value} {L : List Int}
theorem Own.nil (k : IntKind) (e : TypeId) (w : World) (base : Nat) : Own k e w base (.slice none 0 0) [] := World.ownsRow_nil _ _ _ _
theorem Own.alloc (h : Own k e w base v L) (o : Obj) : Own k e (w.alloc o) base v L := World.ownsRow.alloc h o
theorem Own.drew (h : Own k e w base v L) : Own k e w.drew base v L := h
theorem Own.drewN (h : Own k e w base v L) (n : Nat) : Own k e (w.drewN n) base v L := h
theorem Own.low (h : Own k e w base v L) {a : Addr} (ha : a.block < base) (u : Value) : Own k e (w.setCell a u) base v L := ownsRow_setCell_below h ha u
theorem Own.below {B : Nat} (h : Own k e w base v L) (hb : Below B w w') (hB : ∀ g, v.ownBlock = some g → g < B) : Own k e w' base v L := by
  unfold Own at *
  refine ⟨h.1, ?_⟩
  rcases h.2 with hn | ⟨g, cap, cur, rfl, hg, hgg, rest⟩
  · exact .inl hn
  · exact .inr ⟨g, cap, cur, rfl, hg, (hb.block g (hB g rfl)).trans hgg, rest⟩
theorem Own.below' (h : Own k e w base v L) (hb : Below w.heap.size w w') : Own k e w' base v L := h.below hb fun g hg => (World.ownsRow.lt h g hg).2
theorem Own.lt (h : Own k e w base v L) (g : Nat) (hg : v.ownBlock = some g) : base ≤ g ∧ g < w.heap.size := World.ownsRow.lt h g hg
theorem Own.ne (h : Own k e w base v L) {g : Nat} {t : TypeId} {cs : Array Value} (hg : Blk w g t cs) (hne : e ≠ t) : some g ≠ v.ownBlock := own_blk_ne h hg hne
theorem Own.at_least {A : Option Addr} {n c : Nat} (h : Own k e w base (.slice A n c) L) : n = 0 ∨ ∃ ad, A = some ad ∧ base ≤ ad.block := by
  rcases h.2 with ⟨h, h0⟩ | ⟨g, cap, cur, h, hg, _⟩
  · injection h with h1 h2; exact .inl h2
  · injection h with h1 h2; exact .inr ⟨_, h1, hg⟩
/-- it reads as the list, for whoever takes it -/
theorem Own.sl (h : Own k e w base v L) : Sl k w v L := by
  rcases h.2 with ⟨rfl, h0⟩ | ⟨g, cap, cur, rfl, hg, hgg, hc, hm, hs, ht⟩
  · obtain rfl := List.eq_nil_of_length_eq_zero h0
    exact Sl.nil k w 0 none
  · refine ⟨some ⟨g, 0, none⟩, cap, rfl, hc, .inr ⟨⟨g, 0, none⟩, rfl, (Array.getElem?_eq_some_iff.1 hgg).1, fun j hj => ?_⟩⟩
    exact World.ownsRow.cells h (g := g) rfl j _ (by simp [hj])
theorem Own.form (h : Own k e w base v L) : ∃ A c, v = .slice A L.length c := by
  obtain ⟨A, c, h, _⟩ := h.sl
  exact ⟨A, c, h⟩
end
/-- 'append(s, x)' of one number: x lies in a new block of one cell -/
theorem app1 {t e : TypeId} {k : IntKind} (el : Elem t e k) {w : World} {ops : Array Oper} {rest : List Oper} {o : Oper} {a : Act} {Q : Exit → Act → World → Prop} (hgd : o.guard = none) (s x : Operand)
    (ho : o.op = .call { callee := .builtin .append, args := #[s, x], argTypes := #[t, t] })
    {base : Nat} {v : Value} {L : List Int} (hs : a.eval s = v) (hown : Own k e w base v L) (z : Int) (hx : a.eval x = .slice (some ⟨w.heap.size, 0, none⟩) 1 1)
    (hl : L.length ≤ 1000000000000) (hbase : base ≤ w.heap.size)
    (h : ∀ A n c w', Hid (n = L.length + 1) → Own k e w' base (.slice A n c) (L ++ [z]) → w.grownBy w' v.ownBlock → ((Value.slice A n c).ownBlock = v.ownBlock ∨ (Value.slice A n c).ownBlock = some (w.heap.size + 1)) → wpList Tryd.prog ops Q rest (a.put o.dst (.slice A n c)) w') :
    wpList Tryd.prog ops Q (o :: rest) a (w.alloc (.cells #[.int k z] e)) := by
  obtain ⟨i, hi, h0, h1, h2⟩ := el.info
  refine wpList_append_own_at (w.alloc (.cells #[.int k z] e)) hgd s x t ho base e i (.int k 0) 1 i.bytes el.ht hi h0 h1 rfl rfl (by decide) v L.length (L.map (Value.int k)) hs (hown.alloc _)
    ⟨w.heap.size, 0, none⟩ 1 1 [.int k z] hx rfl (cell_one_new _ _ _) (by intro u hu; simp at hu; subst hu; rfl) (by unfold maxLen; omega) ?_ (by simp; omega) ?_
  · have : (L.length + 1) * i.bytes ≤ (L.length + 1) * 8 := Nat.mul_le_mul_left _ h2
    omega
  · intro v' w' hown' hg _ hat
    have ho : Own k e w' base v' (L ++ [z]) := by unfold Own; simpa using hown'
    obtain ⟨A, c, rfl⟩ := ho.form
    exact h A _ c w' (show _ = _ by simp) ho ((World.grownBy_alloc w _ _).trans hg) (by simpa using hat)
theorem Blk.set2 {w : World} {g : Nat} {t : TypeId} {a0 a1 : Value} (h : Blk w g t #[a0, a1]) (x y : Value) : Blk ((w.setCell ⟨g, 0, none⟩ x).setCell ⟨g, 1, none⟩ y) g t #[x, y] := by
  simpa using (h.set_ 0 x).set_ 1 y
theorem Blk.far2 {w : World} {g g' : Nat} {t : TypeId} {cs : Array Value} (h : Blk w g t cs) (hg : g ≠ g') (x y : Value) : Blk ((w.setCell ⟨g', 0, none⟩ x).setCell ⟨g', 1, none⟩ y) g t cs :=
  (h.far (p := ⟨g', 0, none⟩) hg x).far (p := ⟨g', 1, none⟩) hg y
theorem below_set2 {w W : World} {B g : Nat} (h : Below B w W) (hg : B ≤ g) (x y : Value) : Below B w ((W.setCell ⟨g, 0, none⟩ x).setCell ⟨g, 1, none⟩ y) := (h.setCell hg x).setCell hg y
/-- two boxes of two cells exchanged -/
theorem swap2 {w W : World} {t1 t2 t3 : TypeId} {a0 a1 b0 b1 : Value} {c3 : Array Value} (h : Blk W w.heap.size t1 #[a0, a1] ∧ Blk W (w.heap.size + 1) t2 #[b0, b1] ∧ Blk W (w.heap.size + 2) t3 c3 ∧ W.heap.size = w.heap.size + 3 ∧ Below w.heap.size w W) :
    Blk ((((W.setCell ⟨w.heap.size, 0, none⟩ b0).setCell ⟨w.heap.size, 1, none⟩ b1).setCell ⟨w.heap.size + 1, 0, none⟩ a0).setCell ⟨w.heap.size + 1, 1, none⟩ a1) w.heap.size t1 #[b0, b1] ∧
    Blk ((((W.setCell ⟨w.heap.size, 0, none⟩ b0).setCell ⟨w.heap.size, 1, none⟩ b1).setCell ⟨w.heap.size + 1, 0, none⟩ a0).setCell ⟨w.heap.size + 1, 1, none⟩ a1) (w.heap.size + 1) t2 #[a0, a1] ∧
    Blk ((((W.setCell ⟨w.heap.size, 0, none⟩ b0).setCell ⟨w.heap.size, 1, none⟩ b1).setCell ⟨w.heap.size + 1, 0, none⟩ a0).setCell ⟨w.heap.size + 1, 1, none⟩ a1) (w.heap.size + 2) t3 c3 ∧
    ((((W.setCell ⟨w.heap.size, 0, none⟩ b0).setCell ⟨w.heap.size, 1, none⟩ b1).setCell ⟨w.heap.size + 1, 0, none⟩ a0).setCell ⟨w.heap.size + 1, 1, none⟩ a1).heap.size = w.heap.size + 3 ∧
    Below w.heap.size w ((((W.setCell ⟨w.heap.size, 0, none⟩ b0).setCell ⟨w.heap.size, 1, none⟩ b1).setCell ⟨w.heap.size + 1, 0, none⟩ a0).setCell ⟨w.heap.size + 1, 1, none⟩ a1) := by
  obtain ⟨h1, h2, h3, h4, h5⟩ := h
  exact ⟨(h1.set2 b0 b1).far2 (by omega) _ _, (h2.far2 (by omega) _ _).set2 _ _, (h3.far2 (by omega) _ _).far2 (by omega) _ _, by simp [World.setCell, h4], below_set2 (below_set2 h5 (Nat.le_refl _) _ _) (by omega) _ _⟩
/-- two, three new blocks behind one another -/
theorem new2 (w : World) (t1 t2 : TypeId) (c1 c2 : Array Value) (q : Nat) : Blk (((w.alloc (.cells c1 t1)).alloc (.cells c2 t2)).drewN q) w.heap.size t1 c1 ∧
    Blk (((w.alloc (.cells c1 t1)).alloc (.cells c2 t2)).drewN q) (w.heap.size + 1) t2 c2 ∧ (((w.alloc (.cells c1 t1)).alloc (.cells c2 t2)).drewN q).heap.size = w.heap.size + 2 ∧
    Below w.heap.size w (((w.alloc (.cells c1 t1)).alloc (.cells c2 t2)).drewN q) := by
  refine ⟨((Blk.new _ _ _).alloc _).drewN q, ?_, by simp [World.drewN], ?_⟩
  · have := Blk.new (w.alloc (.cells c1 t1)) t2 c2
    simp only [World.size_alloc] at this
    exact this.drewN q
  · have h := ((Below.refl _ w).alloc (Nat.le_refl _) (.cells c1 t1)).alloc (by simp) (.cells c2 t2)
    exact ⟨h.os, h.tape, h.output, h.size, h.block⟩
theorem new3 (w : World) (t1 t2 t3 : TypeId) (c1 c2 c3 : Array Value) (q : Nat) : Blk ((((w.alloc (.cells c1 t1)).alloc (.cells c2 t2)).alloc (.cells c3 t3)).drewN q) w.heap.size t1 c1 ∧
    Blk ((((w.alloc (.cells c1 t1)).alloc (.cells c2 t2)).alloc (.cells c3 t3)).drewN q) (w.heap.size + 1) t2 c2 ∧
    Blk ((((w.alloc (.cells c1 t1)).alloc (.cells c2 t2)).alloc (.cells c3 t3)).drewN q) (w.heap.size + 2) t3 c3 ∧
    ((((w.alloc (.cells c1 t1)).alloc (.cells c2 t2)).alloc (.cells c3 t3)).drewN q).heap.size = w.heap.size + 3 ∧
    Below w.heap.size w ((((w.alloc (.cells c1 t1)).alloc (.cells c2 t2)).alloc (.cells c3 t3)).drewN q) := by
  obtain ⟨h1, h2, h3, h4⟩ := new2 w t1 t2 c1 c2 0
  refine ⟨(h1.alloc _).drewN q, (h2.alloc _).drewN q, ?_, by simp [World.drewN], ?_⟩
  · have := Blk.new ((w.alloc (.cells c1 t1)).alloc (.cells c2 t2)) t3 c3
    simp only [World.size_alloc] at this
    exact this.drewN q
  · have h := (((Below.refl _ w).alloc (Nat.le_refl _) (.cells c1 t1)).alloc (by simp) (.cells c2 t2)).alloc (by simp; omega) (.cells c3 t3)
    exact ⟨h.os, h.tape, h.output, h.size, h.block⟩
end Go.Proofs.YtnpeokgjfnobmaaDoor

/-
  The reference's whole numbers: a number's digits (N).
-/
namespace Go.Proofs.YtnpeokgjfnobmaaDoor
set_option linter.unusedVariables false
set_option linter.unusedSimpArgs false
open Go.RowKit
set_option linter.unusedVariables false
theorem el_int : Elem 32 3 .i64 := Elem.of Tryd.underlying32 (b := 8) (by kernel_rfl) (by decide)
namespace ZC
open Z
theorem N_c (n : Int) (h0 : -9223372036854775808 ≤ n) (h1 : n ≤ 9223372036854775807) (w : World) :
    Calls Tryd.prog 22 #[.int .i64 n] w (RetZ w n) := by
  have H0 := Lib.hid (NI.start n h0 h1)
  go_enter Tryd.func22, Tryd.ntmps22
  go_wp2
  go_loopw [0] (fun i wr => ∃ m L A k c, i = .int .i64 m ∧ Hid (NI n m L) ∧ Hid (k = L.length) ∧ Own .i64 3 wr (w.heap.size + 2) (.slice A k c) L ∧ Blk wr w.heap.size 34 #[.bool false, .slice none 0 0] ∧ Blk wr (w.heap.size + 1) 34 #[.bool (decide (n < 0)), .slice A k c] ∧ Below w.heap.size w wr) (fun i _ => (intOf i).natAbs)
  case atStart =>
    refine ⟨n, [], none, 0, 0, rfl, H0.out, rfl, Own.nil _ _ _ _, (Blk.new _ _ _).alloc _, ?_, ((Below.refl _ _).alloc (Nat.le_refl _) _).alloc (by simp) _⟩
    have := Blk.new (w.alloc (.cells #[.bool false, .slice none 0 0] 34)) 34 #[.bool (decide (n < 0)), .slice none 0 0]
    simpa using this
  case round =>
    obtain ⟨m, L, A, k, c, rfl, hni, HK, hown, hb0, hb1, hbw⟩ := hrel
    have p0 := hb1.at_ 0 rfl
    have p1 := hb1.at_ 1 rfl
    have f1 := hb1.frozen 1
    have hsz := hb1.lt
    by_cases hm : m = 0
    · subst hm
      have hmm : ((0 : Int) != 0) = false := rfl
      have hsl := Lib.hid hown.sl
      have hd := Lib.hid hni.out.done
      have t0 := hb0.at_ 0 rfl
      have t1 := hb0.at_ 1 rfl
      have t2 := hb0.frozen 0
      have t3 := hb0.frozen 1
      go_wp2
      refine bodyPost_ret (v := .agg #[.bool (decide (n < 0)), .slice A k c]) (by simp [results, Tryd.results22, go_sem, t0, t1]) rfl ?_
      exact RetZ.cell (B0 := w.heap.size + 2) ⟨⟨rfl, L, HK.out, hsl.out, hd.out⟩, hown.at_least⟩ (by omega) (Nat.le_refl _) t0 t1 hbw
    · have hm1 : (m != 0) = true := by rw [bne_iff_ne]; exact hm
      have hst := Lib.hid (hni.out.step hm)
      have hmb : -9223372036854775808 ≤ m ∧ m ≤ 9223372036854775807 := hni.out.bd h0 h1
      have tb := tmod_bd m
      by_cases hd : m.tmod 10000 < 0
      · have hdg := Lib.hid (show -(m.tmod 10000) = dgt m by unfold dgt; rw [if_pos hd])
        go_wp2_with (at_builtin; refine app1 el_int rfl _ _ rfl rfl hown _ rfl (by have := hni.out.len; omega) (by omega) ?_; intro A2 k2 c2 w2 hk2 hown2 hg2 hat2; have q0 := hb0.grown hg2 (hown.ne hb0 (by decide)); have q1 := hb1.grown hg2 (hown.ne hb1 (by decide)); have r1 := q1.at_ 1 rfl; have g1 := q1.frozen 1; clear p0 p1 f1)
        rw [hdg.out] at hown2
        have hlt := hown.lt
        have hbw2 : Below w.heap.size w w2 := hbw.grown hg2 (by omega) (fun g hg => by have := hown.lt g hg; omega)
        clear r1 g1
        go_roundw
        case rel =>
          refine ⟨_, _, _, _, _, rfl, hst.out, (hk2.out.trans (by simp)), hown2.low (by simp) _, q0.far (by simp) _, ?_, hbw2.setCell (by simp) _⟩
          simpa using q1.set_ 1 (.slice A2 k2 c2)
        case measure => simp only [intOf]; have := tdiv_abs m; omega
      · have hdg := Lib.hid (show m.tmod 10000 = dgt m by unfold dgt; rw [if_neg hd])
        go_wp2_with (at_builtin; refine app1 el_int rfl _ _ rfl rfl hown _ rfl (by have := hni.out.len; omega) (by omega) ?_; intro A2 k2 c2 w2 hk2 hown2 hg2 hat2; have q0 := hb0.grown hg2 (hown.ne hb0 (by decide)); have q1 := hb1.grown hg2 (hown.ne hb1 (by decide)); have r1 := q1.at_ 1 rfl; have g1 := q1.frozen 1; clear p0 p1 f1)
        rw [hdg.out] at hown2
        have hlt := hown.lt
        have hbw2 : Below w.heap.size w w2 := hbw.grown hg2 (by omega) (fun g hg => by have := hown.lt g hg; omega)
        clear r1 g1
        go_roundw
        case rel =>
          refine ⟨_, _, _, _, _, rfl, hst.out, (hk2.out.trans (by simp)), hown2.low (by simp) _, q0.far (by simp) _, ?_, hbw2.setCell (by simp) _⟩
          simpa using q1.set_ 1 (.slice A2 k2 c2)
        case measure => simp only [intOf]; have := tdiv_abs m; omega
end ZC
end Go.Proofs.YtnpeokgjfnobmaaDoor

/-
  The reference's whole numbers: both together (ZAdd), and the difference (ZSub).
-/
namespace Go.Proofs.YtnpeokgjfnobmaaDoor
set_option linter.unusedVariables false
set_option linter.unusedSimpArgs false
open Go.RowKit
set_option linter.unusedVariables false
namespace ZC
open Z
/-- what both boxes hold behind the exchange -/
structure AddIn (w : World) (z : Int) (x y : Bool) (A : Option Addr) (n c : Nat) (B : Option Addr) (m d : Nat) (X Y : List Int) : Prop where
  sx : Sl .i64 w (.slice A n c) X
  sy : Sl .i64 w (.slice B m d) Y
  dx : Dig X
  dy : Dig Y
  nx : n = X.length
  ny : m = Y.length
  bx : n ≤ 1000000
  bY : m ≤ 1000000
  sum : sg x (val X) + sg y (val Y) = z
  ge : x ≠ y → val Y ≤ val X
set_option maxRecDepth 100000 in
set_option maxHeartbeats 8000000 in
theorem ZAdd_c (va vb : Value) (a b : Int) (w : World) (ha : ZV w va a) (hb : ZV w vb b) (bA : a.natAbs < big 1000000) (bB : b.natAbs < big 1000000) :
    Calls Tryd.prog 21 #[va, vb] w (RetZ w (a + b)) := by
  obtain ⟨x, A, n, c, rfl, ha⟩ := ha
  obtain ⟨y, B, m, d, rfl, hb⟩ := hb
  have lA := ha.len bA
  have lB := hb.len bB
  obtain ⟨hx, X, hn, hs, dX, zX, vX⟩ := ha
  obtain ⟨hy, Y, hm, ht, dY, zY, vY⟩ := hb
  have hin : AddIn w (a + b) x y A n c B m d X Y ∨ (val X < val Y ∧ x ≠ y) := by
    by_cases h : x ≠ y ∧ val X < val Y
    · exact .inr ⟨h.2, h.1⟩
    · refine .inl ⟨hs, ht, dX, dY, hn, hm, lA, lB, ?_, fun h1 => by have : ¬ val X < val Y := fun h2 => h ⟨h1, h2⟩; omega⟩
      rw [vX, vY, hx, hy]; by_cases h1 : a < 0 <;> by_cases h2 : b < 0 <;> simp [sg, h1, h2] <;> omega
  have hin2 : val X < val Y → AddIn w (a + b) y x B m d A n c Y X := fun h => ⟨ht, hs, dY, dX, hm, hn, lB, lA, by
      rw [vX, vY, hx, hy]; by_cases h1 : a < 0 <;> by_cases h2 : b < 0 <;> simp [sg, h1, h2] <;> omega, fun _ => by omega⟩
  have hin1 : ¬ val X < val Y → AddIn w (a + b) x y A n c B m d X Y := fun h => hin.resolve_right fun h2 => h h2.1
  have HIN := Lib.hid hin
  have HIN1 := Lib.hid hin1
  have HIN2 := Lib.hid hin2
  have SZ := Lib.hid (fun W (h1 : Sl .i64 W (.slice A n c) X) (h2 : Sl .i64 W (.slice B m d) Y) => size_c _ _ X Y W h1 h2 dX dY zX zY (by omega) (by omega))
  have HS := Lib.hid hs
  have HT := Lib.hid ht
  clear hin hin1 hin2 hs ht dX dY zX zY vX vY hx hy hn hm bA bB
  go_enter Tryd.func21, Tryd.ntmps21
  go_upto_if 13 with fail
  go_cut [2] (fun s2 wx => s2 = .pointer (some ⟨w.heap.size, 0, none⟩) ∧ ∃ x y A n c B m d X Y, Hid (AddIn w (a + b) x y A n c B m d X Y) ∧ Blk wx w.heap.size 34 #[.bool x, .slice A n c] ∧ Blk wx (w.heap.size + 1) 34 #[.bool y, .slice B m d] ∧
    Blk wx (w.heap.size + 2) 34 #[.bool false, .slice none 0 0] ∧ wx.heap.size = w.heap.size + 3 ∧ Below w.heap.size w wx)
  case first =>
    cases x <;> cases y
    · go_wp2
      go_meet
      exact ⟨rfl, _, _, A, n, c, B, m, d, X, Y, HIN.out.resolve_right (fun h => h.2 rfl), new3 w _ _ _ _ _ _ 0⟩
    · by_cases hlt : val X < val Y
      · rw [cmpv_lt hlt] at SZ
        go_wp2_with (first | (go_at_call 62; (with_reducible refine (SZ.out _ (((HS.out.alloc _).alloc _).alloc _) (((HT.out.alloc _).alloc _).alloc _)).mono ?_); rintro e w' ⟨rfl, q, rfl⟩))
        go_meet
        exact ⟨rfl, _, _, B, m, d, A, n, c, Y, X, HIN2.out hlt, swap2 (new3 w _ _ _ _ _ _ q)⟩
      · have S2 := Lib.hid SZ
        have cb := cmpv_ge0 hlt
        go_wp2_with (first | (go_at_call 62; (with_reducible refine (SZ.out _ (((HS.out.alloc _).alloc _).alloc _) (((HT.out.alloc _).alloc _).alloc _)).mono ?_); rintro e w' ⟨rfl, q, rfl⟩))
        go_meet
        exact ⟨rfl, _, _, A, n, c, B, m, d, X, Y, HIN1.out hlt, new3 w _ _ _ _ _ _ q⟩
    · by_cases hlt : val X < val Y
      · rw [cmpv_lt hlt] at SZ
        go_wp2_with (first | (go_at_call 62; (with_reducible refine (SZ.out _ (((HS.out.alloc _).alloc _).alloc _) (((HT.out.alloc _).alloc _).alloc _)).mono ?_); rintro e w' ⟨rfl, q, rfl⟩))
        go_meet
        exact ⟨rfl, _, _, B, m, d, A, n, c, Y, X, HIN2.out hlt, swap2 (new3 w _ _ _ _ _ _ q)⟩
      · have S2 := Lib.hid SZ
        have cb := cmpv_ge0 hlt
        go_wp2_with (first | (go_at_call 62; (with_reducible refine (SZ.out _ (((HS.out.alloc _).alloc _).alloc _) (((HT.out.alloc _).alloc _).alloc _)).mono ?_); rintro e w' ⟨rfl, q, rfl⟩))
        go_meet
        exact ⟨rfl, _, _, A, n, c, B, m, d, X, Y, HIN1.out hlt, new3 w _ _ _ _ _ _ q⟩
    · go_wp2
      go_meet
      exact ⟨rfl, _, _, A, n, c, B, m, d, X, Y, HIN.out.resolve_right (fun h => h.2 rfl), new3 w _ _ _ _ _ _ 0⟩
  case rest =>
    obtain ⟨rfl, x, y, A, n, c, B, m, d, X, Y, hin, hb0, hb1, hb2, hsz, hbw⟩ := hcut
    have p0 := hb0.at_ 0 rfl
    have hnm : n ≤ 1000000 ∧ m ≤ 1000000 := ⟨hin.out.bx, hin.out.bY⟩
    obtain ⟨M, hM1, hM2, hM3, hM4⟩ : ∃ M, n ≤ M ∧ m ≤ M ∧ (M ≤ n ∨ M ≤ m) ∧ M ≤ 1000000 := by
      rcases Nat.le_total n m with h | h
      · exact ⟨m, h, Nat.le_refl _, .inr (Nat.le_refl _), hnm.2⟩
      · exact ⟨n, Nat.le_refl _, h, .inl (Nat.le_refl _), hnm.1⟩
    obtain ⟨s, hs⟩ : ∃ s, s = (x == y) := ⟨_, rfl⟩
    have HSS := Lib.hid hs
    have hs' := hs.symm
    clear hs
    cases s
    · go_wp2
      go_loopw [6, 7] (fun cv kv wr => ∃ (k : Nat) (cc : Int) (L : List Int) (A' : Option Addr) (k' c' : Nat), cv = .int .i64 cc ∧ kv = .int .i64 k ∧ Hid (AddI false X Y k cc L) ∧ (-1 ≤ cc ∧ cc ≤ 1) ∧ (k ≤ M ∨ k = M + 1 ∧ cc ≤ 0) ∧ Hid (k' = k) ∧ Own .i64 3 wr (w.heap.size + 4) (.slice A' k' c') L ∧
        Blk wr w.heap.size 34 #[.bool x, .slice A n c] ∧ Blk wr (w.heap.size + 1) 34 #[.bool y, .slice B m d] ∧ Blk wr (w.heap.size + 2) 34 #[.bool false, .slice none 0 0] ∧ Blk wr (w.heap.size + 3) 34 #[.bool x, .slice A' k' c'] ∧ Below w.heap.size w wr)
        (fun cv kv _ => mu M (intOf kv) (intOf cv))
      case atStart =>
        refine ⟨0, 0, [], none, 0, 0, rfl, rfl, AddI.start _ _ _, by omega, by omega, rfl, Own.nil _ _ _ _, hb0.alloc _, hb1.alloc _, hb2.alloc _, ?_, hbw.alloc (by omega) _⟩
        have := Blk.new wc 34 #[.bool x, .slice none 0 0]
        rw [hsz] at this
        exact this
      case round =>
        obtain ⟨k, cc, L, A', k', c', rfl, rfl, hI, hcc, hkM, hk', hown, hb0, hb1, hb2, hb3, hbw⟩ := hrel
        have hcs := hI.out.cd rfl
        have p00 := hb0.at_ 0 rfl
        have p01 := hb0.at_ 1 rfl
        have p10 := hb1.at_ 0 rfl
        have p11 := hb1.at_ 1 rfl
        have p31 := hb3.at_ 1 rfl
        have f31 := hb3.frozen 1
        have hsz3 := hb3.lt
        by_cases hka : k < n
        · by_cases hkb : k < m
          · obtain ⟨adx, cx, ex, _, _, hcx⟩ := (hin.out.sx.below hbw).at_ k (by rw [← hin.out.nx]; exact hka)
            injection ex with ex1 ex2 ex3
            subst ex1
            obtain ⟨xa, hxa⟩ : ∃ xa, X.getD k 0 = xa := ⟨_, rfl⟩
            rw [hxa] at hcx
            have bx := getD_dig hin.out.dx k
            rw [hxa] at bx
            have HX := Lib.hid hxa
            clear hxa ex2 ex3
            obtain ⟨ady, cy, ey, _, _, hcy⟩ := (hin.out.sy.below hbw).at_ k (by rw [← hin.out.ny]; exact hkb)
            injection ey with ey1 ey2 ey3
            subst ey1
            obtain ⟨yb, hyb⟩ : ∃ yb, Y.getD k 0 = yb := ⟨_, rfl⟩
            rw [hyb] at hcy
            have bY := getD_dig hin.out.dy k
            rw [hyb] at bY
            have HY := Lib.hid hyb
            clear hyb ey2 ey3
            go_wp2_with (at_builtin; refine app1 el_int rfl _ _ rfl rfl hown _ rfl (by have := hI.out.len; omega) (by omega) ?_; intro A2 k2 c2 w2 hk2 hown2 hg2 hat2; have q3 := hb3.grown hg2 (hown.ne hb3 (by decide)); have r1 := q3.at_ 1 rfl; have g1 := q3.frozen 1; clear p00 p01 p10 p11 p31 f31)
            all_goals
              have hlt := hown.lt
              have hbw2 : Below w.heap.size w w2 := hbw.grown hg2 (by omega) (fun g hg => by have := hown.lt g hg; omega)
              have q0 := hb0.grown hg2 (hown.ne hb0 (by decide))
              have q1 := hb1.grown hg2 (hown.ne hb1 (by decide))
              have q2 := hb2.grown hg2 (hown.ne hb2 (by decide))
              clear r1 g1
              go_roundw
              case rel =>
                refine ⟨k + 1, _, _, _, _, _, rfl, by go_num, hI.out.step _ _ (by omega) (by omega) (by omega) (by omega) (by intro h; first | omega | cases h) (by intro h; first | omega | cases h) (by simp only [HX.out, HY.out, Bool.false_eq_true, if_false]; omega), by omega, by omega, hk2.out.trans (by rw [hI.out.len]), hown2.low (by simp) _, q0.far (by simp) _, q1.far (by simp) _, q2.far (by simp) _, ?_, hbw2.setCell (by simp) _⟩
                simpa using q3.set_ 1 (.slice A2 k2 c2)
              case measure => exact mu_lt (by omega)
          · obtain ⟨adx, cx, ex, _, _, hcx⟩ := (hin.out.sx.below hbw).at_ k (by rw [← hin.out.nx]; exact hka)
            injection ex with ex1 ex2 ex3
            subst ex1
            obtain ⟨xa, hxa⟩ : ∃ xa, X.getD k 0 = xa := ⟨_, rfl⟩
            rw [hxa] at hcx
            have bx := getD_dig hin.out.dx k
            rw [hxa] at bx
            have HX := Lib.hid hxa
            clear hxa ex2 ex3
            have HY := Lib.hid (getD_out (show Y.length ≤ k by rw [← hin.out.ny]; omega))
            go_wp2_with (at_builtin; refine app1 el_int rfl _ _ rfl rfl hown _ rfl (by have := hI.out.len; omega) (by omega) ?_; intro A2 k2 c2 w2 hk2 hown2 hg2 hat2; have q3 := hb3.grown hg2 (hown.ne hb3 (by decide)); have r1 := q3.at_ 1 rfl; have g1 := q3.frozen 1; clear p00 p01 p10 p11 p31 f31)
            all_goals
              have hlt := hown.lt
              have hbw2 : Below w.heap.size w w2 := hbw.grown hg2 (by omega) (fun g hg => by have := hown.lt g hg; omega)
              have q0 := hb0.grown hg2 (hown.ne hb0 (by decide))
              have q1 := hb1.grown hg2 (hown.ne hb1 (by decide))
              have q2 := hb2.grown hg2 (hown.ne hb2 (by decide))
              clear r1 g1
              go_roundw
              case rel =>
                refine ⟨k + 1, _, _, _, _, _, rfl, by go_num, hI.out.step _ _ (by omega) (by omega) (by omega) (by omega) (by intro h; first | omega | cases h) (by intro h; first | omega | cases h) (by simp only [HX.out, HY.out, Bool.false_eq_true, if_false]; omega), by omega, by omega, hk2.out.trans (by rw [hI.out.len]), hown2.low (by simp) _, q0.far (by simp) _, q1.far (by simp) _, q2.far (by simp) _, ?_, hbw2.setCell (by simp) _⟩
                simpa using q3.set_ 1 (.slice A2 k2 c2)
              case measure => exact mu_lt (by omega)
        · by_cases hkb : k < m
          · have HX := Lib.hid (getD_out (show X.length ≤ k by rw [← hin.out.nx]; omega))
            obtain ⟨ady, cy, ey, _, _, hcy⟩ := (hin.out.sy.below hbw).at_ k (by rw [← hin.out.ny]; exact hkb)
            injection ey with ey1 ey2 ey3
            subst ey1
            obtain ⟨yb, hyb⟩ : ∃ yb, Y.getD k 0 = yb := ⟨_, rfl⟩
            rw [hyb] at hcy
            have bY := getD_dig hin.out.dy k
            rw [hyb] at bY
            have HY := Lib.hid hyb
            clear hyb ey2 ey3
            go_wp2_with (at_builtin; refine app1 el_int rfl _ _ rfl rfl hown _ rfl (by have := hI.out.len; omega) (by omega) ?_; intro A2 k2 c2 w2 hk2 hown2 hg2 hat2; have q3 := hb3.grown hg2 (hown.ne hb3 (by decide)); have r1 := q3.at_ 1 rfl; have g1 := q3.frozen 1; clear p00 p01 p10 p11 p31 f31)
            all_goals
              have hlt := hown.lt
              have hbw2 : Below w.heap.size w w2 := hbw.grown hg2 (by omega) (fun g hg => by have := hown.lt g hg; omega)
              have q0 := hb0.grown hg2 (hown.ne hb0 (by decide))
              have q1 := hb1.grown hg2 (hown.ne hb1 (by decide))
              have q2 := hb2.grown hg2 (hown.ne hb2 (by decide))
              clear r1 g1
              go_roundw
              case rel =>
                refine ⟨k + 1, _, _, _, _, _, rfl, by go_num, hI.out.step _ _ (by omega) (by omega) (by omega) (by omega) (by intro h; first | omega | cases h) (by intro h; first | omega | cases h) (by simp only [HX.out, HY.out, Bool.false_eq_true, if_false]; omega), by omega, by omega, hk2.out.trans (by rw [hI.out.len]), hown2.low (by simp) _, q0.far (by simp) _, q1.far (by simp) _, q2.far (by simp) _, ?_, hbw2.setCell (by simp) _⟩
                simpa using q3.set_ 1 (.slice A2 k2 c2)
              case measure => exact mu_lt (by omega)
          · by_cases hcp : 0 < cc
            · exact absurd hcp (by omega)
            · have hc0 : cc ≤ 0 := by omega
              have hv := hI.out.done (by rw [← hin.out.nx]; omega) (by rw [← hin.out.ny]; omega) hc0 (by first | (intro h; cases h; done) | (intro _; exact hin.out.ge (by intro h; subst h; simp at hs')))
              have hz : sg x (val L) = a + b := by
                rw [hv, ← hin.out.sum]
                first | (simp only [if_true]; obtain rfl : x = y := by simpa using hs') | (simp only [Bool.false_eq_true, if_false]; have hne : x ≠ y := by intro h; subst h; simp at hs')
                all_goals (cases x <;> (try cases y) <;> simp [sg] at * <;> omega)
              have TR := trim_c x A' k' c' L wr hown.sl hI.out.dig (by have := hI.out.len; omega)
              rw [hz] at TR
              have TR' := Lib.hid TR
              have p30 := hb3.at_ 0 rfl
              have r20 := hb2.at_ 0 rfl
              have r21 := hb2.at_ 1 rfl
              have s20 := hb2.frozen 0
              have s21 := hb2.frozen 1
              have hsz2 := hb2.lt
              clear TR hz hv
              go_wp2_with (first | (go_at_call 64; (with_reducible refine (TR'.out).mono ?_); rintro e w9 ⟨b9, n9, rfl, hm9, hv9, hb9⟩ ; obtain ⟨hc9, hf9⟩ := bcell hb9 ; have hz9 := hb9.size))
              have t0 : w9.cell? ⟨w.heap.size + 2, 0, none⟩ = some (.bool false) := (hb9.cell hsz2).trans r20
              have t1 : w9.cell? ⟨w.heap.size + 2, 1, none⟩ = some (.slice none 0 0) := (hb9.cell (p := ⟨w.heap.size + 2, 1, none⟩) hsz2).trans r21
              exact bodyPost_ret (v := .agg #[.bool b9, .slice A' n9 c']) (by simp [results, Tryd.results21, go_sem, t0, t1]) rfl (RetZ.cell (B0 := w.heap.size + 4) ⟨hv9, Fr.shrink hown.at_least hm9⟩ (by omega) (by omega) t0 t1 (hbw.trans (hb9.mono hbw.size)))
    · go_wp2
      go_loopw [6, 7] (fun cv kv wr => ∃ (k : Nat) (cc : Int) (L : List Int) (A' : Option Addr) (k' c' : Nat), cv = .int .i64 cc ∧ kv = .int .i64 k ∧ Hid (AddI true X Y k cc L) ∧ (-1 ≤ cc ∧ cc ≤ 1) ∧ (k ≤ M ∨ k = M + 1 ∧ cc ≤ 0) ∧ Hid (k' = k) ∧ Own .i64 3 wr (w.heap.size + 4) (.slice A' k' c') L ∧
        Blk wr w.heap.size 34 #[.bool x, .slice A n c] ∧ Blk wr (w.heap.size + 1) 34 #[.bool y, .slice B m d] ∧ Blk wr (w.heap.size + 2) 34 #[.bool false, .slice none 0 0] ∧ Blk wr (w.heap.size + 3) 34 #[.bool x, .slice A' k' c'] ∧ Below w.heap.size w wr)
        (fun cv kv _ => mu M (intOf kv) (intOf cv))
      case atStart =>
        refine ⟨0, 0, [], none, 0, 0, rfl, rfl, AddI.start _ _ _, by omega, by omega, rfl, Own.nil _ _ _ _, hb0.alloc _, hb1.alloc _, hb2.alloc _, ?_, hbw.alloc (by omega) _⟩
        have := Blk.new wc 34 #[.bool x, .slice none 0 0]
        rw [hsz] at this
        exact this
      case round =>
        obtain ⟨k, cc, L, A', k', c', rfl, rfl, hI, hcc, hkM, hk', hown, hb0, hb1, hb2, hb3, hbw⟩ := hrel
        have hcs := hI.out.cs rfl
        have p00 := hb0.at_ 0 rfl
        have p01 := hb0.at_ 1 rfl
        have p10 := hb1.at_ 0 rfl
        have p11 := hb1.at_ 1 rfl
        have p31 := hb3.at_ 1 rfl
        have f31 := hb3.frozen 1
        have hsz3 := hb3.lt
        by_cases hka : k < n
        · by_cases hkb : k < m
          · obtain ⟨adx, cx, ex, _, _, hcx⟩ := (hin.out.sx.below hbw).at_ k (by rw [← hin.out.nx]; exact hka)
            injection ex with ex1 ex2 ex3
            subst ex1
            obtain ⟨xa, hxa⟩ : ∃ xa, X.getD k 0 = xa := ⟨_, rfl⟩
            rw [hxa] at hcx
            have bx := getD_dig hin.out.dx k
            rw [hxa] at bx
            have HX := Lib.hid hxa
            clear hxa ex2 ex3
            obtain ⟨ady, cy, ey, _, _, hcy⟩ := (hin.out.sy.below hbw).at_ k (by rw [← hin.out.ny]; exact hkb)
            injection ey with ey1 ey2 ey3
            subst ey1
            obtain ⟨yb, hyb⟩ : ∃ yb, Y.getD k 0 = yb := ⟨_, rfl⟩
            rw [hyb] at hcy
            have bY := getD_dig hin.out.dy k
            rw [hyb] at bY
            have HY := Lib.hid hyb
            clear hyb ey2 ey3
            go_wp2_with (at_builtin; refine app1 el_int rfl _ _ rfl rfl hown _ rfl (by have := hI.out.len; omega) (by omega) ?_; intro A2 k2 c2 w2 hk2 hown2 hg2 hat2; have q3 := hb3.grown hg2 (hown.ne hb3 (by decide)); have r1 := q3.at_ 1 rfl; have g1 := q3.frozen 1; clear p00 p01 p10 p11 p31 f31)
            all_goals
              have hlt := hown.lt
              have hbw2 : Below w.heap.size w w2 := hbw.grown hg2 (by omega) (fun g hg => by have := hown.lt g hg; omega)
              have q0 := hb0.grown hg2 (hown.ne hb0 (by decide))
              have q1 := hb1.grown hg2 (hown.ne hb1 (by decide))
              have q2 := hb2.grown hg2 (hown.ne hb2 (by decide))
              clear r1 g1
              go_roundw
              case rel =>
                refine ⟨k + 1, _, _, _, _, _, rfl, by go_num, hI.out.step _ _ (by omega) (by omega) (by omega) (by omega) (by intro h; first | omega | cases h) (by intro h; first | omega | cases h) (by simp only [HX.out, HY.out, if_true]; omega), by omega, by omega, hk2.out.trans (by rw [hI.out.len]), hown2.low (by simp) _, q0.far (by simp) _, q1.far (by simp) _, q2.far (by simp) _, ?_, hbw2.setCell (by simp) _⟩
                simpa using q3.set_ 1 (.slice A2 k2 c2)
              case measure => exact mu_lt (by omega)
          · obtain ⟨adx, cx, ex, _, _, hcx⟩ := (hin.out.sx.below hbw).at_ k (by rw [← hin.out.nx]; exact hka)
            injection ex with ex1 ex2 ex3
            subst ex1
            obtain ⟨xa, hxa⟩ : ∃ xa, X.getD k 0 = xa := ⟨_, rfl⟩
            rw [hxa] at hcx
            have bx := getD_dig hin.out.dx k
            rw [hxa] at bx
            have HX := Lib.hid hxa
            clear hxa ex2 ex3
            have HY := Lib.hid (getD_out (show Y.length ≤ k by rw [← hin.out.ny]; omega))
            go_wp2_with (at_builtin; refine app1 el_int rfl _ _ rfl rfl hown _ rfl (by have := hI.out.len; omega) (by omega) ?_; intro A2 k2 c2 w2 hk2 hown2 hg2 hat2; have q3 := hb3.grown hg2 (hown.ne hb3 (by decide)); have r1 := q3.at_ 1 rfl; have g1 := q3.frozen 1; clear p00 p01 p10 p11 p31 f31)
            all_goals
              have hlt := hown.lt
              have hbw2 : Below w.heap.size w w2 := hbw.grown hg2 (by omega) (fun g hg => by have := hown.lt g hg; omega)
              have q0 := hb0.grown hg2 (hown.ne hb0 (by decide))
              have q1 := hb1.grown hg2 (hown.ne hb1 (by decide))
              have q2 := hb2.grown hg2 (hown.ne hb2 (by decide))
              clear r1 g1
              go_roundw
              case rel =>
                refine ⟨k + 1, _, _, _, _, _, rfl, by go_num, hI.out.step _ _ (by omega) (by omega) (by omega) (by omega) (by intro h; first | omega | cases h) (by intro h; first | omega | cases h) (by simp only [HX.out, HY.out, if_true]; omega), by omega, by omega, hk2.out.trans (by rw [hI.out.len]), hown2.low (by simp) _, q0.far (by simp) _, q1.far (by simp) _, q2.far (by simp) _, ?_, hbw2.setCell (by simp) _⟩
                simpa using q3.set_ 1 (.slice A2 k2 c2)
              case measure => exact mu_lt (by omega)
        · by_cases hkb : k < m
          · have HX := Lib.hid (getD_out (show X.length ≤ k by rw [← hin.out.nx]; omega))
            obtain ⟨ady, cy, ey, _, _, hcy⟩ := (hin.out.sy.below hbw).at_ k (by rw [← hin.out.ny]; exact hkb)
            injection ey with ey1 ey2 ey3
            subst ey1
            obtain ⟨yb, hyb⟩ : ∃ yb, Y.getD k 0 = yb := ⟨_, rfl⟩
            rw [hyb] at hcy
            have bY := getD_dig hin.out.dy k
            rw [hyb] at bY
            have HY := Lib.hid hyb
            clear hyb ey2 ey3
            go_wp2_with (at_builtin; refine app1 el_int rfl _ _ rfl rfl hown _ rfl (by have := hI.out.len; omega) (by omega) ?_; intro A2 k2 c2 w2 hk2 hown2 hg2 hat2; have q3 := hb3.grown hg2 (hown.ne hb3 (by decide)); have r1 := q3.at_ 1 rfl; have g1 := q3.frozen 1; clear p00 p01 p10 p11 p31 f31)
            all_goals
              have hlt := hown.lt
              have hbw2 : Below w.heap.size w w2 := hbw.grown hg2 (by omega) (fun g hg => by have := hown.lt g hg; omega)
              have q0 := hb0.grown hg2 (hown.ne hb0 (by decide))
              have q1 := hb1.grown hg2 (hown.ne hb1 (by decide))
              have q2 := hb2.grown hg2 (hown.ne hb2 (by decide))
              clear r1 g1
              go_roundw
              case rel =>
                refine ⟨k + 1, _, _, _, _, _, rfl, by go_num, hI.out.step _ _ (by omega) (by omega) (by omega) (by omega) (by intro h; first | omega | cases h) (by intro h; first | omega | cases h) (by simp only [HX.out, HY.out, if_true]; omega), by omega, by omega, hk2.out.trans (by rw [hI.out.len]), hown2.low (by simp) _, q0.far (by simp) _, q1.far (by simp) _, q2.far (by simp) _, ?_, hbw2.setCell (by simp) _⟩
                simpa using q3.set_ 1 (.slice A2 k2 c2)
              case measure => exact mu_lt (by omega)
          · by_cases hcp : 0 < cc
            · have HX := Lib.hid (getD_out (show X.length ≤ k by rw [← hin.out.nx]; omega))
              have HY := Lib.hid (getD_out (show Y.length ≤ k by rw [← hin.out.ny]; omega))
              go_wp2_with (at_builtin; refine app1 el_int rfl _ _ rfl rfl hown _ rfl (by have := hI.out.len; omega) (by omega) ?_; intro A2 k2 c2 w2 hk2 hown2 hg2 hat2; have q3 := hb3.grown hg2 (hown.ne hb3 (by decide)); have r1 := q3.at_ 1 rfl; have g1 := q3.frozen 1; clear p00 p01 p10 p11 p31 f31)
              all_goals
                have hlt := hown.lt
                have hbw2 : Below w.heap.size w w2 := hbw.grown hg2 (by omega) (fun g hg => by have := hown.lt g hg; omega)
                have q0 := hb0.grown hg2 (hown.ne hb0 (by decide))
                have q1 := hb1.grown hg2 (hown.ne hb1 (by decide))
                have q2 := hb2.grown hg2 (hown.ne hb2 (by decide))
                clear r1 g1
                go_roundw
                case rel =>
                  refine ⟨k + 1, _, _, _, _, _, rfl, by go_num, hI.out.step _ _ (by omega) (by omega) (by omega) (by omega) (by intro h; first | omega | cases h) (by intro h; first | omega | cases h) (by simp only [HX.out, HY.out, if_true]; omega), by omega, by omega, hk2.out.trans (by rw [hI.out.len]), hown2.low (by simp) _, q0.far (by simp) _, q1.far (by simp) _, q2.far (by simp) _, ?_, hbw2.setCell (by simp) _⟩
                  simpa using q3.set_ 1 (.slice A2 k2 c2)
                case measure => exact mu_lt (by omega)
            · have hc0 : cc ≤ 0 := by omega
              have hv := hI.out.done (by rw [← hin.out.nx]; omega) (by rw [← hin.out.ny]; omega) hc0 (by first | (intro h; cases h; done) | (intro _; exact hin.out.ge (by intro h; subst h; simp at hs')))
              have hz : sg x (val L) = a + b := by
                rw [hv, ← hin.out.sum]
                first | (simp only [if_true]; obtain rfl : x = y := by simpa using hs') | (simp only [Bool.false_eq_true, if_false]; have hne : x ≠ y := by intro h; subst h; simp at hs')
                all_goals (cases x <;> (try cases y) <;> simp [sg] at * <;> omega)
              have TR := trim_c x A' k' c' L wr hown.sl hI.out.dig (by have := hI.out.len; omega)
              rw [hz] at TR
              have TR' := Lib.hid TR
              have p30 := hb3.at_ 0 rfl
              have r20 := hb2.at_ 0 rfl
              have r21 := hb2.at_ 1 rfl
              have s20 := hb2.frozen 0
              have s21 := hb2.frozen 1
              have hsz2 := hb2.lt
              clear TR hz hv
              go_wp2_with (first | (go_at_call 64; (with_reducible refine (TR'.out).mono ?_); rintro e w9 ⟨b9, n9, rfl, hm9, hv9, hb9⟩ ; obtain ⟨hc9, hf9⟩ := bcell hb9 ; have hz9 := hb9.size))
              have t0 : w9.cell? ⟨w.heap.size + 2, 0, none⟩ = some (.bool false) := (hb9.cell hsz2).trans r20
              have t1 : w9.cell? ⟨w.heap.size + 2, 1, none⟩ = some (.slice none 0 0) := (hb9.cell (p := ⟨w.heap.size + 2, 1, none⟩) hsz2).trans r21
              exact bodyPost_ret (v := .agg #[.bool b9, .slice A' n9 c']) (by simp [results, Tryd.results21, go_sem, t0, t1]) rfl (RetZ.cell (B0 := w.heap.size + 4) ⟨hv9, Fr.shrink hown.at_least hm9⟩ (by omega) (by omega) t0 t1 (hbw.trans (hb9.mono hbw.size)))
end ZC
end Go.Proofs.YtnpeokgjfnobmaaDoor

/-
  The reference's whole numbers: the difference.
-/
namespace Go.Proofs.YtnpeokgjfnobmaaDoor
set_option linter.unusedVariables false
set_option linter.unusedSimpArgs false
open Go.RowKit
set_option linter.unusedVariables false
theorem below1 (w : World) (o1 : Obj) : Below w.heap.size w (w.alloc o1) := (Below.refl _ _).alloc (Nat.le_refl _) _
theorem below2 (w : World) (o1 o2 : Obj) : Below w.heap.size w ((w.alloc o1).alloc o2) := (below1 w o1).alloc (by simp) _
theorem below3 (w : World) (o1 o2 o3 : Obj) : Below w.heap.size w (((w.alloc o1).alloc o2).alloc o3) := (below2 w o1 o2).alloc (by simp; omega) _
theorem Blk.after {W w w' : World} {B g : Nat} {t : TypeId} {cs : Array Value} (hb : Below B W w') (h : Blk w g t cs) (e : W.heap = w.heap) (hg : g < B) : Blk w' g t cs := (hb.block g hg).trans ((congrArg (fun x => x[g]?) e).trans h)
namespace ZC
open Z
set_option maxHeartbeats 8000000 in
theorem ZSub_c (va vb : Value) (a b : Int) (w : World) (ha : ZV w va a) (hb : ZV w vb b) (bA : a.natAbs < big 1000000) (bB : b.natAbs < big 1000000) :
    Calls Tryd.prog 66 #[va, vb] w (RetZ w (a - b)) := by
  obtain ⟨x, A, n, c, rfl, ha⟩ := ha
  obtain ⟨y, B, m, d, rfl, hb⟩ := hb
  have NEG := Lib.hid (fun W (h : Below w.heap.size w W) => ZNeg_c _ b W (hb.below h).v bB)
  have ADD : Hid (∀ W v, Below w.heap.size w W → ZV W v (-b) → Calls Tryd.prog 21 #[.agg #[.bool x, .slice A n c], v] W (RetZ W (a - b))) := Lib.hid (fun W v h h2 => by rw [Int.sub_eq_add_neg]; exact ZAdd_c _ v a (-b) W (ha.below h).v h2 bA (by rw [Int.natAbs_neg]; exact bB))
  clear ha hb bA bB
  obtain ⟨N0, N1, N2, N3, N4⟩ := new3 w 34 34 34 #[.bool x, .slice A n c] #[.bool y, .slice B m d] #[.bool false, .slice none 0 0] 0
  have N0 := Lib.hid N0
  have N2 := Lib.hid N2
  have N3 := Lib.hid N3
  clear N1 N4
  go_enter Tryd.func66, Tryd.ntmps66
  go_wp2
  go_region_with (first
    | (go_at_call 36; (with_reducible refine (NEG.out _ (below3 w _ _ _).drew).mono ?_); rintro e w1 ⟨_, rfl, ⟨b1, A1, n1, c1, rfl, hv1⟩, hb1⟩; have M0 := Blk.after hb1 N0.out rfl (by simp; omega); have M2 := Blk.after hb1 N2.out rfl (by simp); have BW1 := (below3 w _ _ _).drew.trans (hb1.mono (below3 w _ _ _).drew.size); clear hb1; have p00 := M0.at_ 0 rfl; have p01 := M0.at_ 1 rfl; have p20 := M2.at_ 0 rfl; have p21 := M2.at_ 1 rfl; have f20 := M2.frozen 0; have f21 := M2.frozen 1)
    | (go_at_call 21; (with_reducible refine (ADD.out _ _ BW1 hv1.v).mono ?_); rintro e w2 ⟨_, rfl, ⟨b2, A2, n2, c2, rfl, hv2⟩, hb2⟩; have M02 := M0.below hb2 M0.lt; have M22 := M2.below hb2 M2.lt; have BW2 := BW1.trans (hb2.mono BW1.size); clear hb2; have p00 := M02.at_ 0 rfl; have p01 := M02.at_ 1 rfl; have p20 := M22.at_ 0 rfl; have p21 := M22.at_ 1 rfl; have f20 := M22.frozen 0; have f21 := M22.frozen 1))
  all_goals
    have t0 := M22.at_ 0 rfl
    have t1 := M22.at_ 1 rfl
    have R := Lib.hid (RetZ.cell hv2 BW1.size (show w.heap.size ≤ w.heap.size + 2 by omega) t0 t1 BW2)
    clear hv2 hv1 BW2 BW1 M0 M2 M02 M22
    go_wp2
    exact bodyPost_ret (v := .agg #[.bool b2, .slice A2 n2 c2]) (by simp [results, Tryd.results66, go_sem, t0, t1]) rfl R.out
end ZC
end Go.Proofs.YtnpeokgjfnobmaaDoor

/-
  Words for a block that is a row of integers, known whole: read, written, made.
-/
namespace Go.Proofs.YtnpeokgjfnobmaaDoor
set_option linter.unusedVariables false
set_option linter.unusedSimpArgs false
open Go.RowKit
set_option linter.unusedVariables false
def Row (k : IntKind) (e : TypeId) (w : World) (g : Nat) (L : List Int) : Prop := Blk w g e (L.map (Value.int k)).toArray
section
variable {k : IntKind} {e : TypeId} {w w' : World} {g : Nat} {L : List Int}
theorem Row.at_ (h : Row k e w g L) (j : Nat) (hj : j < L.length) : w.cell? ⟨g, j, none⟩ = some (.int k (L.getD j 0)) := by
  refine Blk.at_ h j ?_
  rw [List.getD_eq_getElem?_getD, List.getElem?_eq_getElem hj]
  simp [hj]
theorem Row.frozen (h : Row k e w g L) (j : Nat) : w.frozen? ⟨g, j, none⟩ = false := Blk.frozen h j
theorem Row.set_ (h : Row k e w g L) (j : Nat) (z : Int) : Row k e (w.setCell ⟨g, j, none⟩ (.int k z)) g (L.set j z) := by
  have := Blk.set_ h j (.int k z)
  unfold Row
  rw [List.map_set]
  simpa using this
theorem Row.far (h : Row k e w g L) {p : Addr} (hp : g ≠ p.block) (u : Value) : Row k e (w.setCell p u) g L := Blk.far h hp u
theorem Row.alloc (h : Row k e w g L) (o : Obj) : Row k e (w.alloc o) g L := Blk.alloc h o
theorem Row.lt (h : Row k e w g L) : g < w.heap.size := Blk.lt h
theorem Row.sl (h : Row k e w g L) (c : Nat) (hc : L.length ≤ c) : Sl k w (.slice (some ⟨g, 0, none⟩) L.length c) L := by
  refine ⟨_, c, rfl, hc, .inr ⟨⟨g, 0, none⟩, rfl, h.lt, fun j hj => ?_⟩⟩
  have := h.at_ j hj
  rw [List.getD_eq_getElem?_getD, List.getElem?_eq_getElem hj] at this
  have e : (⟨g, 0, none⟩ : Addr).add j = ⟨g, j, none⟩ := by unfold Addr.add; split <;> simp_all
  rw [e]; exact this
theorem Row.after {W : World} {B : Nat} (hb : Below B W w') (h : Row k e w g L) (ew : W.heap = w.heap) (hg : g < B) : Row k e w' g L := (hb.block g hg).trans ((congrArg (fun x => x[g]?) ew).trans h)
theorem made_row (k : IntKind) (n : Nat) : madeCells #[.int k 0] n = ((List.replicate n (0 : Int)).map (Value.int k)).toArray := by
  apply Array.ext
  · simp [madeCells]
  · intro i h1 h2
    simp [madeCells, Nat.mod_one]
theorem Row.new (k : IntKind) (e : TypeId) (w : World) (n : Nat) : Row k e (w.alloc (.cells (madeCells #[.int k 0] n) e)) w.heap.size (List.replicate n 0) := by
  unfold Row; rw [← made_row]; exact Blk.new _ _ _
theorem Row.new' (k : IntKind) (e : TypeId) (w : World) (n : Nat) {g : Nat} (hg : w.heap.size = g) : Row k e (w.alloc (.cells (madeCells #[.int k 0] n) e)) g (List.replicate n 0) := hg ▸ Row.new k e w n
theorem Blk.new' (w : World) (t : TypeId) (cs : Array Value) {g : Nat} (hg : w.heap.size = g) : Blk (w.alloc (.cells cs t)) g t cs := hg ▸ Blk.new w t cs
theorem Row.drew (h : Row k e w g L) : Row k e w.drew g L := h
end
end Go.Proofs.YtnpeokgjfnobmaaDoor

/-
  Plain mathematics of the product by rows of digits, and of the carry.
-/
namespace Go.Proofs.YtnpeokgjfnobmaaDoor.Z
set_option linter.unusedVariables false
set_option linter.unusedSimpArgs false
theorem getD_set {L : List Int} {k : Nat} (h : k < L.length) (j : Nat) (z : Int) : (L.set k z).getD j 0 = if j = k then z else L.getD j 0 := by
  simp only [List.getD_eq_getElem?_getD, List.getElem?_set]
  by_cases e : k = j
  · subst e; simp [h]
  · simp [e, Ne.symm e]
theorem val_set (L : List Int) (k : Nat) (z : Int) (h : k < L.length) : val (L.set k z) = val L + 10000 ^ k * (z - L.getD k 0) := by
  induction L generalizing k with
  | nil => simp at h
  | cons d r ih =>
    cases k with
    | zero => simp [val]; omega
    | succ k =>
      have := ih k (by simpa using h)
      simp only [List.set_cons_succ, val, this, List.getD_cons_succ, Int.pow_succ]
      grind
theorem val_rep (n : Nat) : val (List.replicate n 0) = 0 := by
  induction n with
  | zero => rfl
  | succ n ih => simp [List.replicate_succ, val, ih]
theorem getD_rep (n k : Nat) : (List.replicate n (0 : Int)).getD k 0 = 0 := by
  simp [List.getD_eq_getElem?_getD, List.getElem?_replicate]; split <;> rfl
theorem val_ge_at {L : List Int} (h : ∀ k, 0 ≤ L.getD k 0) (k : Nat) : 10000 ^ k * L.getD k 0 ≤ val L := by
  induction L generalizing k with
  | nil => simp [val]
  | cons d r ih =>
    have h0 := h 0
    have hr : ∀ k, 0 ≤ r.getD k 0 := fun k => by simpa using h (k + 1)
    simp at h0
    cases k with
    | zero =>
      have := ih hr 0
      have h1 := hr 0
      simp at this h1
      simp [val]; omega
    | succ k =>
      have := ih hr k
      simp only [val, List.getD_cons_succ, Int.pow_succ]
      have e : (10000 : Int) ^ k * 10000 * r.getD k 0 = 10000 * (10000 ^ k * r.getD k 0) := by grind
      omega
/-- after i rows, and j places of the next one -/
structure MulI (X Y : List Int) (N i j : Nat) (x : Int) (L : List Int) : Prop where
  len : L.length = N
  lo : ∀ k, 0 ≤ L.getD k 0
  hi : ∀ k, L.getD k 0 ≤ ((i : Int) + 1) * 100000000
  hj : ∀ k, i + j ≤ k → L.getD k 0 ≤ (i : Int) * 100000000
  sum : val L = val (X.take i) * val Y + 10000 ^ i * x * val (Y.take j)
theorem MulI.start (X Y : List Int) (N : Nat) : MulI X Y N 0 0 (X.getD 0 0) (List.replicate N 0) :=
  ⟨by simp, fun k => by rw [getD_rep]; omega, fun k => by rw [getD_rep]; omega, fun k _ => by rw [getD_rep]; omega, by simp [val_rep, val]⟩
theorem MulI.step {X Y : List Int} {N i j : Nat} {x y : Int} {L : List Int} (h : MulI X Y N i j x L) (hx : 0 ≤ x ∧ x < 10000) (hy : 0 ≤ y ∧ y < 10000) (ey : Y.getD j 0 = y) (hN : i + j < N) :
    MulI X Y N i (j + 1) x (L.set (i + j) (L.getD (i + j) 0 + x * y)) := by
  have hl : i + j < L.length := by rw [h.len]; exact hN
  have hxy : 0 ≤ x * y := Int.mul_nonneg hx.1 hy.1
  have hxy2 : x * y ≤ 9999 * 9999 := Int.mul_le_mul (by omega) (by omega) hy.1 (by omega)
  have hb := h.hj (i + j) (Nat.le_refl _)
  refine ⟨by simp [h.len], ?_, ?_, ?_, ?_⟩
  · intro k; rw [getD_set hl]; split
    · have := h.lo (i + j); omega
    · exact h.lo k
  · intro k; rw [getD_set hl]; split
    · omega
    · exact h.hi k
  · intro k hk; rw [getD_set hl, if_neg (by omega)]; exact h.hj k (by omega)
  · rw [val_set _ _ _ hl, h.sum, val_take_succ, ey, Int.pow_add]; grind
theorem MulI.next {X Y : List Int} {N i j : Nat} {x : Int} {L : List Int} (h : MulI X Y N i j x L) (ex : X.getD i 0 = x) (hj : Y.length ≤ j) (x' : Int) : MulI X Y N (i + 1) 0 x' L := by
  refine ⟨h.len, h.lo, fun k => ?_, fun k _ => ?_, ?_⟩
  · have := h.hi k; omega
  · have := h.hi k; omega
  · rw [h.sum, val_take_succ, ex, List.take_of_length_le hj]; simp [val]; grind
/-- the carry so far -/
structure CarI (P : Int) (N k : Nat) (L : List Int) : Prop where
  len : L.length = N
  sum : val L = P
  lo : ∀ j, 0 ≤ L.getD j 0
  done : ∀ j, j < k → L.getD j 0 < 10000
  hi : ∀ j, L.getD j 0 ≤ 200000000000000
  rest : ∀ j, k < j → L.getD j 0 ≤ 100000200000000
theorem MulI.carry {X Y : List Int} {N i : Nat} {x : Int} {L : List Int} (h : MulI X Y N i 0 x L) (hi : X.length ≤ i) (hb : i ≤ 1000000) : CarI (val X * val Y) N 0 L := by
  refine ⟨h.len, ?_, h.lo, by omega, fun j => ?_, fun j _ => ?_⟩
  · rw [h.sum, List.take_of_length_le hi]; simp [val]
  · have := h.hi j; omega
  · have := h.hi j; omega
theorem CarI.last {P : Int} {N k : Nat} {L : List Int} (h : CarI P N k L) (hk : k < N) (hP : P < 10000 ^ (N - 1)) (hb : 10000 ≤ L.getD k 0) : k + 1 < N := by
  rcases Nat.lt_or_ge (k + 1) N with h1 | h1
  · exact h1
  · exfalso
    have h2 := val_ge_at h.lo k
    rw [h.sum] at h2
    obtain rfl : k = N - 1 := by omega
    have hp : (0 : Int) < 10000 ^ (N - 1) := Int.pow_pos (by decide)
    have := Int.mul_le_mul_of_nonneg_left hb (show (0 : Int) ≤ 10000 ^ (N - 1) by omega)
    omega
theorem CarI.small {P : Int} {N k : Nat} {L : List Int} (h : CarI P N k L) (hb : L.getD k 0 < 10000) : CarI P N (k + 1) L :=
  ⟨h.len, h.sum, h.lo, fun j hj => by by_cases e : j = k; (subst e; exact hb); exact h.done j (by omega), h.hi, fun j hj => h.rest j (by omega)⟩
theorem CarI.step {P : Int} {N k : Nat} {L : List Int} (h : CarI P N k L) (hk : k + 1 < N) :
    CarI P N (k + 1) ((L.set (k + 1) (L.getD (k + 1) 0 + L.getD k 0 / 10000)).set k (L.getD k 0 % 10000)) := by
  have h1 : k + 1 < L.length := by rw [h.len]; exact hk
  have h2 : k < (L.set (k + 1) (L.getD (k + 1) 0 + L.getD k 0 / 10000)).length := by simp; omega
  have a0 := h.lo k
  have a1 := h.lo (k + 1)
  have a2 := h.hi k
  have a3 := h.rest (k + 1) (by omega)
  have gd : ∀ j, ((L.set (k + 1) (L.getD (k + 1) 0 + L.getD k 0 / 10000)).set k (L.getD k 0 % 10000)).getD j 0 = if j = k then L.getD k 0 % 10000 else if j = k + 1 then L.getD (k + 1) 0 + L.getD k 0 / 10000 else L.getD j 0 := by
    intro j; rw [getD_set h2, getD_set h1]
  refine ⟨by simp [h.len], ?_, ?_, ?_, ?_, ?_⟩
  · rw [val_set _ _ _ h2, val_set _ _ _ h1, h.sum, getD_set h1, if_neg (by omega), Int.pow_succ]
    have e := Int.mul_ediv_add_emod (L.getD k 0) 10000
    generalize L.getD k 0 / 10000 = q at *
    generalize L.getD k 0 % 10000 = r at *
    grind
  · intro j; rw [gd]; have := h.lo j; split; omega; split <;> omega
  · intro j hj; rw [gd]; have := h.done j; split; omega; split <;> omega
  · intro j; rw [gd]; have := h.hi j; split; omega; split <;> omega
  · intro j hj; rw [gd]; have := h.rest j; split; omega; split <;> omega
theorem CarI.dig {P : Int} {N : Nat} {L : List Int} (h : CarI P N N L) : Dig L := by
  intro d hd
  obtain ⟨j, hj, rfl⟩ := List.getElem_of_mem hd
  have h1 := h.lo j
  have h2 := h.done j (by rw [← h.len]; exact hj)
  rw [List.getD_eq_getElem?_getD, List.getElem?_eq_getElem hj] at h1 h2
  exact ⟨h1, h2⟩
theorem mul_lt_pow {X Y : List Int} {n m : Nat} (hX : Dig X) (hY : Dig Y) (hn : X.length = n) (hm : Y.length = m) : val X * val Y < 10000 ^ (n + m + 1 - 1) := by
  have h1 := val_lt hX
  have h2 := val_lt hY
  rw [hn] at h1
  rw [hm] at h2
  have h3 := val_nonneg hX
  have h4 := val_nonneg hY
  rw [Nat.add_sub_cancel, Int.pow_add]
  have hp : (0 : Int) < 10000 ^ m := Int.pow_pos (by decide)
  rcases Int.lt_or_eq_of_le h4 with h5 | h5
  · have a := Int.mul_lt_mul_of_pos_right h1 h5
    have b := Int.mul_le_mul_of_nonneg_left (Int.le_of_lt h2) (show (0 : Int) ≤ 10000 ^ n from Int.le_of_lt (Int.pow_pos (by decide)))
    omega
  · rw [← h5]; simp; exact Int.mul_pos (Int.pow_pos (by decide)) hp
end Go.Proofs.YtnpeokgjfnobmaaDoor.Z

/-
  The reference's whole numbers: one times the other.
-/
namespace Go.Proofs.YtnpeokgjfnobmaaDoor
set_option linter.unusedVariables false
set_option linter.unusedSimpArgs false
open Go.RowKit
set_option linter.unusedVariables false
namespace ZC
open Z
set_option maxRecDepth 100000 in
set_option maxHeartbeats 8000000 in
theorem ZMul_c (va vb : Value) (a b : Int) (w : World) (ha : ZV w va a) (hb : ZV w vb b) (bA : a.natAbs < big 1000000) (bB : b.natAbs < big 1000000) :
    Calls Tryd.prog 20 #[va, vb] w (RetZ w (a * b)) := by
  obtain ⟨x, A, n, c, rfl, ha⟩ := ha
  obtain ⟨y, B, m, d, rfl, hb⟩ := hb
  have lA := ha.len bA
  have lB := hb.len bB
  obtain ⟨hx, X, hn, hs, dX, zX, vX⟩ := ha
  obtain ⟨hy, Y, hm, ht, dY, zY, vY⟩ := hb
  have hfin : sg (!(x == y)) (val X * val Y) = a * b := by
    rw [vX, vY, hx, hy]
    by_cases h1 : a < 0 <;> by_cases h2 : b < 0 <;> simp [sg, h1, h2]
    · rw [show ((a.natAbs : Nat) : Int) = -a by omega, show ((b.natAbs : Nat) : Int) = -b by omega]; grind
    · rw [show ((a.natAbs : Nat) : Int) = -a by omega, show ((b.natAbs : Nat) : Int) = b by omega]; grind
    · rw [show ((a.natAbs : Nat) : Int) = a by omega, show ((b.natAbs : Nat) : Int) = -b by omega]; grind
    · rw [show ((a.natAbs : Nat) : Int) = a by omega, show ((b.natAbs : Nat) : Int) = b by omega]
  have HF := Lib.hid hfin
  have HS := Lib.hid hs
  have HT := Lib.hid ht
  have DX := Lib.hid dX
  have DY := Lib.hid dY
  have HN := Lib.hid hn
  have HM := Lib.hid hm
  clear hfin hs ht dX dY zX zY vX vY hx hy hn hm bA bB
  have hmk := run_make_row' (P := Tryd.prog) 32 3 (.int .i64 0) 8 Tryd.underlying32 (by kernel_rfl) rfl .i64 .i64 (n + m + 1) (by omega) (by omega)
  rw [show ((n + m + 1 : Nat) : Int) = (n : Int) + (m : Int) + 1 by omega] at hmk
  go_enter Tryd.func20, Tryd.ntmps20
  go_upto_region 1 with fail
  go_cut [5] (fun s5 wx => ∃ g gs, s5 = .pointer (some ⟨g, 0, none⟩) ∧ g ≠ gs ∧ w.heap.size + 3 ≤ g ∧ w.heap.size + 3 ≤ gs ∧ Blk wx w.heap.size 34 #[.bool x, .slice A n c] ∧ Blk wx (w.heap.size + 1) 34 #[.bool y, .slice B m d] ∧
    Blk wx (w.heap.size + 2) 34 #[.bool false, .slice none 0 0] ∧ Blk wx g 34 #[.bool (x != y), .slice (some ⟨gs, 0, none⟩) (n + m + 1) (n + m + 1)] ∧ Row .i64 3 wx gs (List.replicate (n + m + 1) 0) ∧ Below w.heap.size w wx)
  case first =>
    obtain ⟨N0, N1, N2, N3, N4⟩ := new3 w 34 34 34 #[.bool x, .slice A n c] #[.bool y, .slice B m d] #[.bool false, .slice none 0 0] 0
    have N0 := Lib.hid N0
    have N1 := Lib.hid N1
    have N2 := Lib.hid N2
    have N3 := Lib.hid N3
    have N4 := Lib.hid N4
    go_region
    all_goals
      go_wp2
      go_meet
    · exact ⟨w.heap.size + 4, w.heap.size + 3, rfl, by omega, by omega, by omega, ((N0.out.alloc _).alloc _).drew, ((N1.out.alloc _).alloc _).drew, ((N2.out.alloc _).alloc _).drew, (Blk.new' _ _ _ (by simp)).drew, (Row.alloc (Row.new' _ _ _ _ (by simp)) _).drew, ((N4.out.alloc (by simp; omega) _).alloc (by simp; omega) _).drew⟩
    · exact ⟨w.heap.size + 3, w.heap.size + 4, rfl, by omega, by omega, by omega, ((N0.out.alloc _).alloc _).drew, ((N1.out.alloc _).alloc _).drew, ((N2.out.alloc _).alloc _).drew, (Blk.alloc (Blk.new' _ _ _ (by simp)) _).drew, (Row.new' _ _ _ _ (by simp)).drew, ((N4.out.alloc (by simp; omega) _).alloc (by simp; omega) _).drew⟩
  case rest =>
    obtain ⟨g, gs, rfl, hne, hg, hgs, hb0, hb1, hb2, hb3, hrow, hbw⟩ := hcut
    clear hmk
    have p01 := hb0.at_ 1 rfl
    go_wp2
    clear p01
    go_loopw [29] (fun iv wr => ∃ (i : Nat) (L : List Int), iv = .int .i64 i ∧ i ≤ n ∧ Hid (MulI X Y (n + m + 1) i 0 (X.getD i 0) L) ∧ Blk wr w.heap.size 34 #[.bool x, .slice A n c] ∧ Blk wr (w.heap.size + 1) 34 #[.bool y, .slice B m d] ∧
      Blk wr (w.heap.size + 2) 34 #[.bool false, .slice none 0 0] ∧ Blk wr g 34 #[.bool (!(x == y)), .slice (some ⟨gs, 0, none⟩) (n + m + 1) (n + m + 1)] ∧ Row .i64 3 wr gs L ∧ Below w.heap.size w wr) (fun iv _ => n - (intOf iv).toNat)
    case atStart => exact ⟨0, _, rfl, by omega, MulI.start _ _ _, hb0, hb1, hb2, hb3, hrow, hbw⟩
    case round =>
      obtain ⟨i, L, rfl, hi, hI, hb0, hb1, hb2, hb3, hrow, hbw⟩ := hrel
      by_cases hin : i < n
      · obtain ⟨adx, cx, ex, _, _, hcx⟩ := (HS.out.below hbw).at_ i (by rw [← HN.out]; exact hin)
        injection ex with ex1 ex2 ex3
        subst ex1
        obtain ⟨xa, hxa⟩ : ∃ xa, X.getD i 0 = xa := ⟨_, rfl⟩
        rw [hxa] at hcx hI
        have bx := getD_dig DX.out i
        rw [hxa] at bx
        have HX := Lib.hid hxa
        clear hxa ex2 ex3
        have p11 := hb1.at_ 1 rfl
        go_wp2
        clear p11 hcx
        go_loopw [37] (fun jv wr => ∃ (j : Nat) (L : List Int), jv = .int .i64 j ∧ j ≤ m ∧ Hid (MulI X Y (n + m + 1) i j xa L) ∧ Blk wr w.heap.size 34 #[.bool x, .slice (some adx) n c] ∧ Blk wr (w.heap.size + 1) 34 #[.bool y, .slice B m d] ∧
          Blk wr (w.heap.size + 2) 34 #[.bool false, .slice none 0 0] ∧ Blk wr g 34 #[.bool (!(x == y)), .slice (some ⟨gs, 0, none⟩) (n + m + 1) (n + m + 1)] ∧ Row .i64 3 wr gs L ∧ Below w.heap.size w wr) (fun jv _ => m - (intOf jv).toNat)
        case atStart => exact ⟨0, _, rfl, by omega, hI, hb0, hb1, hb2, hb3, hrow, hbw⟩
        case round =>
          obtain ⟨j, L, rfl, hj, hI, hb0, hb1, hb2, hb3, hrow, hbw⟩ := hrel
          by_cases hjm : j < m
          · obtain ⟨ady, cy, ey, _, _, hcy⟩ := (HT.out.below hbw).at_ j (by rw [← HM.out]; exact hjm)
            injection ey with ey1 ey2 ey3
            subst ey1
            obtain ⟨yb, hyb⟩ : ∃ yb, Y.getD j 0 = yb := ⟨_, rfl⟩
            rw [hyb] at hcy
            have bY := getD_dig DY.out j
            rw [hyb] at bY
            have HY := Lib.hid hyb
            clear hyb ey2 ey3
            have p31 := hb3.at_ 1 rfl
            have rij := hrow.at_ (i + j) (by rw [hI.out.len]; omega)
            have fij := hrow.frozen (i + j)
            have hST := Lib.hid (hI.out.step bx bY HY.out (by omega))
            have lo := hI.out.lo (i + j)
            have hi' := hI.out.hi (i + j)
            obtain ⟨z, hz⟩ : ∃ z, L.getD (i + j) 0 = z := ⟨_, rfl⟩
            rw [hz] at rij lo hi' hST
            clear hz
            have hxy : 0 ≤ xa * yb := Int.mul_nonneg bx.1 bY.1
            have hxy2 : xa * yb ≤ 9999 * 9999 := Int.mul_le_mul (by omega) (by omega) bY.1 (by omega)
            go_wp2
            exact ⟨⟨j + 1, _, by simp, by omega, hST.out, hb0.far (by simp; omega) _, hb1.far (by simp; omega) _, hb2.far (by simp; omega) _, hb3.far (by simp; omega) _, hrow.set_ _ _, hbw.setCell (by simp; omega) _⟩, by simp only [intOf]; omega⟩
          · have hX2 := Lib.hid (hI.out.next HX.out (by have := HM.out; omega) (X.getD (i + 1) 0))
            go_wp2
            exact ⟨⟨i + 1, _, by simp, by omega, hX2.out, hb0, hb1, hb2, hb3, hrow, hbw⟩, by simp only [intOf]; omega⟩
      · have hC := Lib.hid (hI.out.carry (by have := HN.out; omega) (by omega))
        have hP := Lib.hid (mul_lt_pow DX.out DY.out HN.out.symm HM.out.symm)
        clear hI
        have p31 := hb3.at_ 1 rfl
        go_wp2
        clear p31
        go_loopw [59] (fun kv wr => ∃ (k : Nat) (L : List Int), kv = .int .i64 k ∧ k ≤ n + m + 1 ∧ Hid (CarI (val X * val Y) (n + m + 1) k L) ∧ Blk wr (w.heap.size + 2) 34 #[.bool false, .slice none 0 0] ∧ Blk wr g 34 #[.bool (!(x == y)), .slice (some ⟨gs, 0, none⟩) (n + m + 1) (n + m + 1)] ∧ Row .i64 3 wr gs L ∧ Below w.heap.size w wr) (fun kv _ => n + m + 1 - (intOf kv).toNat)
        case atStart => exact ⟨0, _, rfl, by omega, hC, hb2, hb3, hrow, hbw⟩
        case round =>
          obtain ⟨k, L, rfl, hk, hC, hb2, hb3, hrow, hbw⟩ := hrel
          have p31 := hb3.at_ 1 rfl
          have p30 := hb3.at_ 0 rfl
          by_cases hkn : k < n + m + 1
          · have rk := hrow.at_ k (by rw [hC.out.len]; omega)
            have fk := hrow.frozen k
            have lo := hC.out.lo k
            have hi2 := hC.out.hi k
            by_cases hz : 10000 ≤ L.getD k 0
            · have hl := hC.out.last hkn hP.out hz
              have rk1 := hrow.at_ (k + 1) (by rw [hC.out.len]; omega)
              have fk1 := hrow.frozen (k + 1)
              have lo1 := hC.out.lo (k + 1)
              have hi1 := hC.out.rest (k + 1) (by omega)
              have hS := hC.out.step hl
              obtain ⟨z, ez⟩ : ∃ z, L.getD k 0 = z := ⟨_, rfl⟩
              obtain ⟨z1, ez1⟩ : ∃ z, L.getD (k + 1) 0 = z := ⟨_, rfl⟩
              rw [ez] at rk lo hi2 hz hS
              rw [ez1] at rk1 lo1 hi1 hS
              rw [← Int.tdiv_eq_ediv_of_nonneg lo] at hS
              have hS' := Lib.hid hS
              have hd : 0 ≤ z.tdiv 10000 ∧ z.tdiv 10000 ≤ 20000000000 := by rw [Int.tdiv_eq_ediv_of_nonneg lo]; omega
              clear hS ez ez1
              go_wp2
              go_region
              go_wp2
              exact ⟨⟨k + 1, _, by simp, by omega, hS'.out, ((hb2.far (by simp; omega) _).far (by simp; omega) _).drew, ((hb3.far (by simp; omega) _).far (by simp; omega) _).drew, ((hrow.set_ _ _).set_ _ _).drew, ((hbw.setCell (by simp; omega) _).setCell (by simp; omega) _).drew⟩, by simp only [intOf]; omega⟩
            · have hS' := Lib.hid (hC.out.small (by omega))
              obtain ⟨z, ez⟩ : ∃ z, L.getD k 0 = z := ⟨_, rfl⟩
              rw [ez] at rk lo hi2 hz
              clear ez
              go_wp2
              exact ⟨⟨k + 1, _, by simp, by omega, hS'.out, hb2, hb3, hrow, hbw⟩, by simp only [intOf]; omega⟩
          · obtain rfl : k = n + m + 1 := by omega
            have TR := trim_c (!(x == y)) _ _ _ L wr (hrow.sl (n + m + 1) (by rw [hC.out.len]; omega)) hC.out.dig (by rw [hC.out.len]; omega)
            rw [hC.out.sum, HF.out, hC.out.len] at TR
            have TR' := Lib.hid TR
            have r20 := hb2.at_ 0 rfl
            have r21 := hb2.at_ 1 rfl
            have s20 := hb2.frozen 0
            have s21 := hb2.frozen 1
            have hsz2 := hb2.lt
            clear TR
            go_wp2_with (first | (go_at_call 64; (with_reducible refine (TR'.out).mono ?_); rintro e w9 ⟨b9, n9, rfl, hm9, hv9, hb9⟩ ; obtain ⟨hc9, hf9⟩ := bcell hb9 ; have hz9 := hb9.size))
            have t0 : w9.cell? ⟨w.heap.size + 2, 0, none⟩ = some (.bool false) := (hb9.cell hsz2).trans r20
            have t1 : w9.cell? ⟨w.heap.size + 2, 1, none⟩ = some (.slice none 0 0) := (hb9.cell (p := ⟨w.heap.size + 2, 1, none⟩) hsz2).trans r21
            exact bodyPost_ret (v := .agg #[.bool b9, .slice (some ⟨gs, 0, none⟩) n9 (n + m + 1)]) (by simp [results, Tryd.results20, go_sem, t0, t1]) rfl (RetZ.cell (B0 := gs) ⟨hv9, .inr ⟨_, rfl, Nat.le_refl _⟩⟩ (by omega) (by omega) t0 t1 (hbw.trans (hb9.mono hbw.size)))
end ZC
end Go.Proofs.YtnpeokgjfnobmaaDoor

/-
  The reference's whole numbers: powers of two.
-/
namespace Go.Proofs.YtnpeokgjfnobmaaDoor
set_option linter.unusedVariables false
set_option linter.unusedSimpArgs false
open Go.RowKit
set_option linter.unusedVariables false
namespace ZC
open Z
theorem pow2_bigN (n N : Nat) (h : n ≤ N) (hN : N ≠ 0) : ((2 : Int) ^ n).natAbs < big N := by
  have h1 : ((2 : Int) ^ n).natAbs = 2 ^ n := by rw [Int.natAbs_pow]; rfl
  rw [h1]; unfold big
  exact Nat.lt_of_le_of_lt (Nat.pow_le_pow_right (by decide) h) (Nat.pow_lt_pow_left (by decide) hN)
theorem pow2_big (n : Nat) (h : n ≤ 1000000) : ((2 : Int) ^ n).natAbs < big 1000000 := pow2_bigN n _ h (by decide)
theorem pow2_60 {n : Int} (h : n < 60) : (2 : Int) ^ n.toNat ≤ 576460752303423488 := by
  have : (2 : Nat) ^ n.toNat ≤ 2 ^ 59 := Nat.pow_le_pow_right (by omega) (by omega)
  have h2 : ((2 ^ n.toNat : Nat) : Int) ≤ ((2 ^ 59 : Nat) : Int) := Int.ofNat_le.2 this
  simpa using h2
set_option maxHeartbeats 8000000 in
theorem ZPow_c : ∀ (N : Nat) (n : Int) (w : World), 0 ≤ n → n.toNat ≤ N → n ≤ 1000000 → Calls Tryd.prog 17 #[.int .i64 n] w (RetZ w (2 ^ n.toNat)) := by
  intro N
  induction N with
  | zero =>
    intro n w h0 h1 h2
    obtain rfl : n = 0 := by omega
    have NC := Lib.hid (fun W => N_c 1 (by omega) (by omega) W)
    go_enter Tryd.func17, Tryd.ntmps17
    go_wp2_with (first | (go_at_call 22; (with_reducible refine (NC.out _).mono ?_); rintro e w1 ⟨_, rfl, ⟨b1, A1, n1, c1, rfl, hv1⟩, hb1⟩ ; obtain ⟨hc1, hf1⟩ := bcell hb1 ; have hz1 := hb1.size))
    have bw : Below w.heap.size w w1 := (below1 w _).trans (hb1.mono (by simp))
    have c0 : w1.cell? ⟨w.heap.size, 0, none⟩ = some (.bool false) := by rw [hb1.cell (by simp)]; simp [go_sem]
    have c1' : w1.cell? ⟨w.heap.size, 1, none⟩ = some (.slice none 0 0) := by rw [hb1.cell (by simp)]; simp [go_sem]
    exact bodyPost_ret (v := .agg #[.bool b1, .slice A1 n1 c1]) (by simp [results, Tryd.results17, go_sem, c0, c1']) rfl (RetZ.cell hv1 (by simp) (Nat.le_refl _) c0 c1' bw)
  | succ N ih =>
    intro n w h0 h1 h2
    by_cases hz : n = 0
    · exact ih n w h0 (by omega) h2
    · have hz1 : (n == 0) = false := by simpa using hz
      by_cases h6 : n < 60
      · have hb := pow2_60 h6
        have hp : (0 : Int) < 2 ^ n.toNat := Int.pow_pos (by decide)
        have e : wrap64 (2 ^ n.toNat) = 2 ^ n.toNat := by unfold wrap64; omega
        have NC := Lib.hid (fun W => N_c (2 ^ n.toNat) (by omega) (by omega) W)
        have E := Lib.hid e
        clear e hp hb ih
        go_enter Tryd.func17, Tryd.ntmps17
        go_wp2_with (go_at_call 22; rw [E.out]; (with_reducible refine (NC.out _).mono ?_); rintro e w1 ⟨_, rfl, ⟨b1, A1, n1, c1, rfl, hv1⟩, hb1⟩ ; obtain ⟨hc1, hf1⟩ := bcell hb1 ; have hz1 := hb1.size)
        have bw : Below w.heap.size w w1 := (below1 w _).trans (hb1.mono (by simp))
        have c0 : w1.cell? ⟨w.heap.size, 0, none⟩ = some (.bool false) := by rw [hb1.cell (by simp)]; simp [go_sem]
        have c1' : w1.cell? ⟨w.heap.size, 1, none⟩ = some (.slice none 0 0) := by rw [hb1.cell (by simp)]; simp [go_sem]
        exact bodyPost_ret (v := .agg #[.bool b1, .slice A1 n1 c1]) (by simp [results, Tryd.results17, go_sem, c0, c1']) rfl (RetZ.cell hv1 (by simp) (Nat.le_refl _) c0 c1' bw)
      · have P1 := Lib.hid (fun W => ih (n / 2) W (by omega) (by omega) (by omega))
        have P2 := Lib.hid (fun W => ih (n - n / 2) W (by omega) (by omega) (by omega))
        have MC := Lib.hid (fun va vb W h1 h2 => ZMul_c va vb (2 ^ (n / 2).toNat) (2 ^ (n - n / 2).toNat) W h1 h2 (pow2_big _ (by omega)) (pow2_big _ (by omega)))
        have hmul : (2 : Int) ^ (n / 2).toNat * 2 ^ (n - n / 2).toNat = 2 ^ n.toNat := by rw [← Int.pow_add]; congr 1; omega
        rw [hmul] at MC
        clear ih hmul
        go_enter Tryd.func17, Tryd.ntmps17
        have N0 := Lib.hid (Blk.new w 34 #[.bool false, .slice none 0 0])
        go_wp2_with (first | (go_at_call 17; (with_reducible refine (P1.out _).mono ?_); rintro e w1 ⟨_, rfl, ⟨b1, A1, n1, c1, rfl, hv1⟩, hb1⟩ ; obtain ⟨hc1, hf1⟩ := bcell hb1 ; have hz1 := hb1.size ; have M1 := Blk.after hb1 N0.out rfl (by simp) ; clear hc1 hf1) | (go_at_call 17; (with_reducible refine (P2.out _).mono ?_); rintro e w2 ⟨_, rfl, ⟨b2, A2, n2, c2, rfl, hv2⟩, hb2⟩ ; obtain ⟨hc2, hf2⟩ := bcell hb2 ; have hz2 := hb2.size ; have M2 := M1.below hb2 M1.lt ; clear hc2 hf2) | (go_at_call 20; (with_reducible refine (MC.out _ _ _ (hv1.below hb2).v hv2.v).mono ?_); rintro e w3 ⟨_, rfl, ⟨b3, A3, n3, c3, rfl, hv3⟩, hb3⟩ ; obtain ⟨hc3, hf3⟩ := bcell hb3 ; have hz3 := hb3.size ; have M3 := M2.below hb3 M2.lt; have p0 := M3.at_ 0 rfl; have p1 := M3.at_ 1 rfl; have f0 := M3.frozen 0; have f1 := M3.frozen 1; clear hc3 hf3))
        have bw : Below w.heap.size w w1 := (below1 w _).trans (hb1.mono (by simp))
        have bw2 := bw.trans (hb2.mono bw.size)
        have bw3 := bw2.trans (hb3.mono bw2.size)
        have c0 := M3.at_ 0 rfl
        have c1' := M3.at_ 1 rfl
        exact bodyPost_ret (v := .agg #[.bool b3, .slice A3 n3 c3]) (by simp [results, Tryd.results17, go_sem, c0, c1']) rfl (RetZ.cell hv3 bw2.size (Nat.le_refl _) c0 c1' bw3)
end ZC
end Go.Proofs.YtnpeokgjfnobmaaDoor

/-
  Plain mathematics: lists of limbs of 32 bits, lowest first; their value.
-/
namespace Go.Proofs.YtnpeokgjfnobmaaDoor.L
set_option linter.unusedVariables false
set_option linter.unusedSimpArgs false
open Z (Nz)
def lv : List Int → Int
  | [] => 0
  | d :: r => d + 4294967296 * lv r
def Lim (L : List Int) : Prop := ∀ d ∈ L, 0 ≤ d ∧ d < 4294967296
theorem lv_append (a b : List Int) : lv (a ++ b) = lv a + 4294967296 ^ a.length * lv b := by
  induction a with
  | nil => simp [lv]
  | cons d r ih => simp only [List.cons_append, lv, ih, List.length_cons, Int.pow_succ]; grind
theorem lv_nonneg {L : List Int} (h : Lim L) : 0 ≤ lv L := by
  induction L with
  | nil => simp [lv]
  | cons d r ih =>
    have h1 := h d (by simp)
    have h2 := ih fun x hx => h x (by simp [hx])
    simp only [lv]; omega
theorem Lim.take {L : List Int} (h : Lim L) (n : Nat) : Lim (L.take n) := fun d hd => h d (List.mem_of_mem_take hd)
theorem Lim.drop {L : List Int} (h : Lim L) (n : Nat) : Lim (L.drop n) := fun d hd => h d (List.mem_of_mem_drop hd)
theorem Lim.nil : Lim [] := by intro d h; cases h
theorem Lim.app {L M : List Int} (h : Lim L) (h' : Lim M) : Lim (L ++ M) := by
  intro d hd
  rcases List.mem_append.1 hd with hd | hd
  · exact h d hd
  · exact h' d hd
theorem lv_lt {L : List Int} (h : Lim L) : lv L < 4294967296 ^ L.length := by
  induction L with
  | nil => simp [lv]
  | cons d r ih =>
    have h1 := h d (by simp)
    have h2 := ih fun x hx => h x (by simp [hx])
    simp only [lv, List.length_cons, Int.pow_succ]; omega
theorem pow_pos (n : Nat) : (0 : Int) < 4294967296 ^ n := Int.pow_pos (by decide)
theorem pow_mono {a b : Nat} (h : a ≤ b) : (4294967296 : Int) ^ a ≤ 4294967296 ^ b := by
  obtain ⟨c, rfl⟩ := Nat.exists_eq_add_of_le h
  rw [Int.pow_add]
  have h1 := pow_pos a
  have h2 := pow_pos c
  have := Int.mul_le_mul_of_nonneg_left (show (1 : Int) ≤ 4294967296 ^ c by omega) (show (0 : Int) ≤ 4294967296 ^ a by omega)
  omega
theorem pow_two (h : Nat) : (4294967296 : Int) ^ h = 2 ^ (32 * h) := by rw [show (4294967296 : Int) = 2 ^ 32 by decide, ← Int.pow_mul]
theorem lv_ge {L : List Int} (h : Lim L) (hn : Nz L) (hne : L ≠ []) : 4294967296 ^ (L.length - 1) ≤ lv L := by
  obtain ⟨r, d, rfl⟩ := List.eq_nil_or_concat L |>.resolve_left hne
  have hd := h d (by simp)
  have hd0 : d ≠ 0 := by have := hn hne; simpa using this
  have hr := lv_nonneg (L := r) fun x hx => h x (by simp [hx])
  simp only [List.concat_eq_append]
  rw [lv_append]
  have hd2 : lv [d] = d := by simp [lv]
  rw [hd2]
  have : (4294967296 : Int) ^ r.length * 1 ≤ 4294967296 ^ r.length * d := Int.mul_le_mul_of_nonneg_left (by omega) (by have := pow_pos r.length; omega)
  simp; omega
theorem lv_cut (L : List Int) (k : Nat) (hk : k ≤ L.length) : lv L = lv (L.take k) + 4294967296 ^ k * lv (L.drop k) := by
  conv => lhs; rw [← List.take_append_drop k L, lv_append]
  rw [List.length_take, Nat.min_eq_left hk]
theorem lv_len {L M : List Int} (hL : Lim L) (hM : Lim M) (nM : Nz M) (h : L.length < M.length) : lv L < lv M := by
  have h1 := lv_lt hL
  have h2 := lv_ge hM nM (by rintro rfl; simp at h)
  have h3 := pow_mono (show L.length ≤ M.length - 1 by omega)
  omega
theorem lv_same_len {L M : List Int} (hL : Lim L) (hM : Lim M) (hl : L.length = M.length) (h : lv L = lv M) : L = M := by
  induction L generalizing M with
  | nil => simp at hl; exact (List.eq_nil_of_length_eq_zero hl.symm).symm
  | cons d r ih =>
    cases M with
    | nil => simp at hl
    | cons d' r' =>
      simp only [lv] at h
      have h1 := hL d (by simp)
      have h2 := hM d' (by simp)
      have e : d = d' := by omega
      have e2 : lv r = lv r' := by omega
      rw [e, ih (fun x hx => hL x (by simp [hx])) (fun x hx => hM x (by simp [hx])) (by simpa using hl) e2]
theorem lv_inj {L M : List Int} (hL : Lim L) (hM : Lim M) (nL : Nz L) (nM : Nz M) (h : lv L = lv M) : L = M := by
  rcases Nat.lt_trichotomy L.length M.length with hl | hl | hl
  · have := lv_len hL hM nM hl; omega
  · exact lv_same_len hL hM hl h
  · have := lv_len hM hL nL hl; omega
theorem lv_bigN {L : List Int} (h : Lim L) (N : Nat) (hl : 3 * L.length ≤ N) : (lv L).natAbs < Z.big N := by
  have h1 := lv_lt h
  have h2 := lv_nonneg h
  have h3 := Z.pow_mono hl
  have h4 : (4294967296 : Int) ^ L.length ≤ 10000 ^ (3 * L.length) := by
    rw [Int.pow_mul]
    have : (4294967296 ^ L.length : Nat) ≤ (10000 ^ 3) ^ L.length := Nat.pow_le_pow_left (by decide) _
    have h := Int.ofNat_le.2 this
    rw [Int.natCast_pow, Int.natCast_pow] at h
    exact h
  have h5 := Z.big_cast N
  omega
theorem lv_big {L : List Int} (h : Lim L) (hl : L.length ≤ 30000) : (lv L).natAbs < Z.big 1000000 := lv_bigN h _ (by omega)
end Go.Proofs.YtnpeokgjfnobmaaDoor.L

/-
  The reference's whole number of limbs (ZLimbs).
-/
namespace Go.Proofs.YtnpeokgjfnobmaaDoor
set_option linter.unusedVariables false
set_option linter.unusedSimpArgs false
open Go.RowKit
set_option linter.unusedVariables false
theorem Sl.drop {k : IntKind} {w : World} {L : List Int} {ad : Addr} {n c : Nat} (h : Sl k w (.slice (some ad) n c) L) (m : Nat) (hm : m ≤ L.length) : Sl k w (.slice (some (ad.add m)) (n - m) (c - m)) (L.drop m) := by
  obtain ⟨A', c', e, hc, h⟩ := h
  injection e with e1 e2 e3
  subst e1 e3
  subst e2
  refine ⟨some (ad.add m), c - m, by rw [List.length_drop], by rw [List.length_drop]; omega, ?_⟩
  rcases h with rfl | ⟨ad', e', hb, hr⟩
  · left; simp
  · injection e' with e'
    subst e'
    right
    refine ⟨_, rfl, by rw [block_of_add]; exact hb, fun j hj => ?_⟩
    rw [List.length_drop] at hj
    rw [add_of_add, hr (m + j) (by omega), List.getElem_drop]
namespace ZC
open Z
set_option maxHeartbeats 8000000 in
theorem ZLimbs_c : ∀ (N : Nat) (s : Value) (l : List Int) (w : World), Sl .u32 w s l → l.length ≤ N → l.length ≤ 30000 → L.Lim l → Calls Tryd.prog 15 #[s] w (RetZ w (L.lv l)) := by
  intro N
  induction N with
  | zero =>
    intro s l w hs h1 h2 h3
    obtain rfl := List.eq_nil_of_length_eq_zero (by omega : l.length = 0)
    obtain ⟨A, c, rfl, hc, _⟩ := hs.open_
    go_enter Tryd.func15, Tryd.ntmps15
    go_wp2
    exact bodyPost_ret (v := .agg #[.bool false, .slice none 0 0]) (by simp [results, Tryd.results15, go_sem]) rfl
      ⟨_, rfl, ⟨_, _, _, _, rfl, ZL.nil _ _ _, .inl rfl⟩, below1 w _⟩
  | succ N ih =>
    intro s l w hs h1 h2 h3
    by_cases hz : l.length ≤ N
    · exact ih s l w hs hz h2 h3
    · by_cases hone : l.length = 1
      · obtain ⟨d, rfl⟩ := List.length_eq_one_iff.1 hone
        obtain ⟨ad, c, rfl, hc, hb, hcell⟩ := hs.at_ 0 (by simp)
        rw [show ad.add 0 = ad by unfold Addr.add; simp] at hcell
        have hcell := (World.cell?_alloc_lt w (.cells #[.bool false, .slice none 0 0] 34) ad hb).trans hcell
        simp only [List.getD_cons_zero] at hcell
        have hd := h3 d (by simp)
        have NC := Lib.hid (fun W => N_c d (by omega) (by omega) W)
        have HL : L.lv [d] = d := by simp [L.lv]
        rw [HL]
        clear ih
        go_enter Tryd.func15, Tryd.ntmps15
        go_wp2_with (first | (go_at_call 22; (with_reducible refine (NC.out _).mono ?_); rintro e w1 ⟨_, rfl, ⟨b1, A1, n1, c1, rfl, hv1⟩, hb1⟩ ; obtain ⟨hc1, hf1⟩ := bcell hb1 ; have hz1 := hb1.size))
        have bw : Below w.heap.size w w1 := (below1 w _).trans (hb1.mono (by simp))
        have c0 : w1.cell? ⟨w.heap.size, 0, none⟩ = some (.bool false) := by rw [hb1.cell (by simp)]; simp [go_sem]
        have c1' : w1.cell? ⟨w.heap.size, 1, none⟩ = some (.slice none 0 0) := by rw [hb1.cell (by simp)]; simp [go_sem]
        exact bodyPost_ret (v := .agg #[.bool b1, .slice A1 n1 c1]) (by simp [results, Tryd.results15, go_sem, c0, c1']) rfl (RetZ.cell hv1 (by simp) (Nat.le_refl _) c0 c1' bw)
      · obtain ⟨n, hn⟩ : ∃ n, n = l.length := ⟨_, rfl⟩
        obtain ⟨ad, c, rfl, hc, hb, _⟩ := hs.at_ 0 (by omega)
        have hcut := L.lv_cut l (n / 2) (by omega)
        rw [← hn] at hs ⊢
        have S1 := Lib.hid (hs.take (n / 2) (by omega))
        have S2 := Lib.hid (hs.drop (n / 2) (by omega))
        have B1 := L.lv_big (h3.take (n / 2)) (by rw [List.length_take]; omega)
        have B2 := L.lv_big (h3.drop (n / 2)) (by rw [List.length_drop]; omega)
        have B3 : (L.lv (l.drop (n / 2)) * 2 ^ (32 * ((n : Int) / 2)).toNat).natAbs < big 1000000 := by
          rw [show (32 * ((n : Int) / 2)).toNat = 32 * (n / 2) by omega, ← L.pow_two]
          have a := L.lv_big h3 (by omega)
          have b := L.lv_nonneg (h3.take (n / 2))
          have c := L.lv_nonneg (h3.drop (n / 2))
          have d := Int.mul_nonneg c (Int.le_of_lt (L.pow_pos (n / 2)))
          rw [Int.mul_comm] at hcut
          omega
        have P1 := Lib.hid (fun W (h : Sl .u32 W (.slice (some ad) (n / 2) c) (l.take (n / 2))) => ih _ _ W h (by rw [List.length_take]; omega) (by rw [List.length_take]; omega) (h3.take _))
        have P2 := Lib.hid (fun W (h : Sl .u32 W (.slice (some (ad.add (n / 2))) (n - n / 2) (c - n / 2)) (l.drop (n / 2))) => ih _ _ W h (by rw [List.length_drop]; omega) (by rw [List.length_drop]; omega) (h3.drop _))
        have PW := Lib.hid (fun W => ZPow_c (32 * (n / 2)) (32 * ((n : Int) / 2)) W (by omega) (by omega) (by omega))
        have PM := Lib.hid (fun va vb W h1 h2 => ZMul_c va vb (L.lv (l.drop (n / 2))) (2 ^ (32 * ((n : Int) / 2)).toNat) W h1 h2 B2 (pow2_big _ (by omega)))
        have PA := Lib.hid (fun va vb W h1 h2 => ZAdd_c va vb (L.lv (l.take (n / 2))) (L.lv (l.drop (n / 2)) * 2 ^ (32 * ((n : Int) / 2)).toNat) W h1 h2 B1 B3)
        rw [show L.lv (l.take (n / 2)) + L.lv (l.drop (n / 2)) * 2 ^ (32 * ((n : Int) / 2)).toNat = L.lv l by rw [hcut, show (32 * ((n : Int) / 2)).toNat = 32 * (n / 2) by omega, ← L.pow_two, Int.mul_comm (4294967296 ^ (n / 2))]] at PA
        have N0 := Lib.hid (Blk.new w 34 #[.bool false, .slice none 0 0])
        rw [← hn] at hc h1 h2 hone hz
        have e0 : ((n : Int) == 0) = false := by simp; omega
        have e1 : ((n : Int) == 1) = false := by simp; omega
        clear ih hcut hs hn B1 B2 B3 h3
        go_enter Tryd.func15, Tryd.ntmps15
        go_wp2
        go_region_with (first
          | (go_at_call 15; (with_reducible refine (P1.out _ (S1.out.below (below1 w _).drew)).mono ?_); rintro e w1 ⟨_, rfl, ⟨b1, A1, n1, c1, rfl, hv1⟩, hb1⟩; have M1 := Blk.after hb1 N0.out rfl (by simp); have BW1 : Below w.heap.size w w1 := (below1 w _).drew.trans (hb1.mono (by simp)))
          | (go_at_call 15; (with_reducible refine (P2.out _ (S2.out.below BW1)).mono ?_); rintro e w2 ⟨_, rfl, ⟨b2, A2, n2, c2, rfl, hv2⟩, hb2⟩; have M2 := M1.below hb2 M1.lt; have BW2 : Below w.heap.size w w2 := BW1.trans (hb2.mono BW1.size))
          | (go_at_call 17; (with_reducible refine (PW.out _).mono ?_); rintro e w3 ⟨_, rfl, ⟨b3, A3, n3, c3, rfl, hv3⟩, hb3⟩; have M3 := M2.below hb3 M2.lt; have BW3 : Below w.heap.size w w3 := BW2.trans (hb3.mono BW2.size))
          | (go_at_call 20; (with_reducible refine (PM.out _ _ _ (hv2.below hb3).v hv3.v).mono ?_); rintro e w4 ⟨_, rfl, ⟨b4, A4, n4, c4, rfl, hv4⟩, hb4⟩; have M4 := M3.below hb4 M3.lt; have BW4 : Below w.heap.size w w4 := BW3.trans (hb4.mono BW3.size))
          | (go_at_call 21; (with_reducible refine (PA.out _ _ _ (((hv1.below hb2).below hb3).below hb4).v hv4.v).mono ?_); rintro e w5 ⟨_, rfl, ⟨b5, A5, n5, c5, rfl, hv5⟩, hb5⟩; have M5 := M4.below hb5 M4.lt; have BW5 : Below w.heap.size w w5 := BW4.trans (hb5.mono BW4.size); clear hb1 hb2 hb3 hb4 hb5; have p0 := M5.at_ 0 rfl; have p1 := M5.at_ 1 rfl; have f0 := M5.frozen 0; have f1 := M5.frozen 1))
        all_goals
          have t0 := M5.at_ 0 rfl
          have t1 := M5.at_ 1 rfl
          have R := Lib.hid (RetZ.cell hv5 BW4.size (Nat.le_refl _) t0 t1 BW5)
          clear hv5 hv4 hv3 hv2 hv1 BW5 BW4 BW3 BW2 BW1 M1 M2 M3 M4 M5
          go_wp2
          exact bodyPost_ret (v := .agg #[.bool b5, .slice A5 n5 c5]) (by simp [results, Tryd.results15, go_sem, t0, t1]) rfl R.out
end ZC
end Go.Proofs.YtnpeokgjfnobmaaDoor

/-
  A region that draws its order, with a condition on the world that is held till the last operations (numbers from 'nl' on, which wait for all that is taken first): a store at the end may then hit a cell that the region loads.
-/
namespace Go.Proofs.YtnpeokgjfnobmaaDoor
set_option linter.unusedVariables false
set_option linter.unusedSimpArgs false
open Go.RowKit
set_option linter.unusedVariables false
section
variable {P : Program} {ops : Array Oper} {Q : Exit → Act → World → Prop} {md : Region.Mode} {S : World → Prop} {nl : Nat}
/-- whatever order is picked; behind every operation but the last ones the condition holds -/
def wpAnyL (P : Program) (md : Region.Mode) (ops : Array Oper) (Q : Exit → Act → World → Prop) (S : World → Prop) (nl : Nat) : Nat → Array Bool → Act → World → Prop
  | 0, listed, a, w => Region.ready md ops listed = [] ∧ Q .normal a w
  | fuel + 1, listed, a, w =>
    (Region.ready md ops listed = [] → Q .normal a w) ∧
    ∀ i ∈ Region.ready md ops listed, wpOp P ops Q i (fun a' w' => (i < nl → S w') ∧ wpAnyL P md ops Q S nl fuel (listed.setIfInBounds i true) a' w') a w
theorem wpAny_of_L : ∀ (fuel : Nat) (listed : Array Bool) (a : Act) (w : World), wpAnyL P md ops Q S nl fuel listed a w → wpAny P md ops Q fuel listed a w
  | 0, _, _, _, h => h
  | fuel + 1, _, _, _, h => ⟨h.1, fun i hi => wpOp_mono (fun a' w' h' => wpAny_of_L fuel _ a' w' h'.2) (h.2 i hi)⟩
/-- do all the last ones that have not come up wait for number i, or for one that has not come up and waits for it? -/
def lastWait (md : Region.Mode) (ops : Array Oper) (nl : Nat) (listed : Array Bool) (i : Nat) : Bool :=
  (List.range ops.size).all fun j => decide (j < nl) || j == i || listed.getD j true || match ops[j]? with
    | some oj => oj.after.any (fun e => Region.binds md e && (e.on == i || (!listed.getD e.on true && match ops[e.on]? with
      | some ok => ok.after.any (fun e' => Region.binds md e' && e'.on == i)
      | none => false)))
    | none => true
def LastWaits (md : Region.Mode) (ops : Array Oper) (nl : Nat) (listed : Array Bool) (i : Nat) : Prop :=
  ∀ (j : Nat) (oj : Oper), ops[j]? = some oj → nl ≤ j → j ≠ i → listed.getD j true = false →
    (∃ e ∈ oj.after, Region.binds md e = true ∧ e.on = i) ∨
    (∃ e ∈ oj.after, Region.binds md e = true ∧ listed.getD e.on true = false ∧ ∃ ok, ops[e.on]? = some ok ∧ ∃ e' ∈ ok.after, Region.binds md e' = true ∧ e'.on = i)
theorem lastWait_spec {listed : Array Bool} {i : Nat} (h : lastWait md ops nl listed i = true) : LastWaits md ops nl listed i := by
  intro j oj hj hnl hne hun
  unfold lastWait at h
  simp only [List.all_eq_true, List.mem_range] at h
  have h1 := h j (Array.getElem?_eq_some_iff.1 hj).1
  have hd : decide (j < nl) = false := by simp; exact hnl
  have hne' : (j == i) = false := by simpa using hne
  simp only [hj, hd, hne', hun, Bool.false_or] at h1
  obtain ⟨e, he, hb⟩ := Array.any_eq_true'.1 h1
  simp only [Bool.and_eq_true, Bool.or_eq_true, beq_iff_eq, Bool.not_eq_true'] at hb
  obtain ⟨hb1, hb2 | ⟨hb2, hb3⟩⟩ := hb
  · exact .inl ⟨e, he, hb1, hb2⟩
  · refine .inr ⟨e, he, hb1, hb2, ?_⟩
    cases hk : ops[e.on]? with
    | none => rw [hk] at hb3; cases hb3
    | some ok =>
      rw [hk] at hb3
      obtain ⟨e', he', hb'⟩ := Array.any_eq_true'.1 hb3
      simp only [Bool.and_eq_true, beq_iff_eq] at hb'
      exact ⟨ok, rfl, e', he', hb'.1, hb'.2⟩
theorem getD_both {listed : Array Bool} {k : Nat} (h1 : listed.getD k true = false) (h2 : listed.getD k false = true) : False := by
  rcases Nat.lt_or_ge k listed.size with h | h
  · simp [h] at h1 h2; rw [h1] at h2; cases h2
  · simp [Array.getElem?_eq_none h] at h2
theorem wpAnyL_first {i : Nat} {oi : Oper} {v : Value} (hi : ops[i]? = some oi) (hsel : ∀ (j : Nat) (o : Oper) cs b, ops[j]? = some o → o.op ≠ .select cs b)
    (hQ : ∀ c a w, Q (.panic c) (a.put oi.dst v) w → Q (.panic c) a w) :
    ∀ (fuel : Nat) (listed : Array Bool) (a : Act) (w : World),
      (∀ j oj, ops[j]? = some oj → j ≠ i → listed.getD j true = false → (∀ e ∈ oj.after, Region.binds md e = true → e.on ≠ i) → oi.apart ops oj = true) → LastWaits md ops nl listed i →
      i ∈ Region.ready md ops listed → YieldsIf P ops S oi v a → S w →
      wpAnyL P md ops Q S nl fuel (listed.setIfInBounds i true) (a.put oi.dst v) w → wpAnyL P md ops Q S nl (fuel + 1) listed a w := by
  intro fuel
  induction fuel with
  | zero =>
    intro listed a w _ _ hr hy hS H
    refine ⟨fun h => (by rw [h] at hr; cases hr), fun j hj => ?_⟩
    by_cases hji : j = i
    · subst hji; exact hy.wpOp hi hS ⟨fun _ => hS, H⟩
    · have := ready_mono hj hji
      rw [H.1] at this
      cases this
  | succ fuel ih =>
    intro listed a w hfree hW hr hy hS H
    refine ⟨fun h => (by rw [h] at hr; cases hr), fun j hj => ?_⟩
    by_cases hji : j = i
    · subst hji; exact hy.wpOp hi hS ⟨fun _ => hS, H⟩
    · have h1 := H.2 j (ready_mono hj hji)
      obtain ⟨hjun, oj, hoj, hall⟩ := mem_ready.1 hj
      have hnot : ∀ e ∈ oj.after, Region.binds md e = true → e.on ≠ i := fun e he hb heq => by
        have h1 := hall e he hb
        have h0 := (mem_ready.1 hr).1
        rw [heq] at h1
        rcases Nat.lt_or_ge i listed.size with h' | h'
        · simp [h'] at h0 h1; rw [h0] at h1; cases h1
        · simp [Array.getElem?_eq_none h'] at h1
      have hap := hfree j oj hoj hji hjun hnot
      have hiun := (mem_ready.1 hr).1
      have hlt : j < nl := by
        rcases Nat.lt_or_ge j nl with h | h
        · exact h
        · exfalso
          rcases hW j oj hoj h hji hjun with ⟨e, he, hb, heq⟩ | ⟨e, he, hb, hun, _⟩
          · exact hnot e he hb heq
          · exact getD_both hun (hall e he hb)
      have h2 := wpOp_putIf hoj hap (fun cs b => hsel i oi cs b hi) (fun cs b => hsel j oj cs b hoj) hQ hy h1
      refine wpOp_mono (fun a' w' h3 => ⟨h3.2.1, ih (listed.setIfInBounds j true) a' w' ?_ ?_ (ready_mono hr (Ne.symm hji)) h3.1 (h3.2.1 hlt) ?_⟩) h2
      · intro k ok hk hki hun hno
        refine hfree k ok hk hki ?_ hno
        by_cases hjk : j = k
        · subst hjk; exact hjun
        · rw [getD_set_ne true hjk] at hun; exact hun
      · intro k ok hk hnl hki hun
        have hun' : listed.getD k true = false := by
          by_cases hjk : j = k
          · subst hjk; exact hjun
          · rw [getD_set_ne true hjk] at hun; exact hun
        rcases hW k ok hk hnl hki hun' with h | ⟨e, he, hb, hu, o2, ho2, e', he', hb', heq⟩
        · exact .inl h
        · refine .inr ⟨e, he, hb, ?_, o2, ho2, e', he', hb', heq⟩
          by_cases hje : j = e.on
          · exfalso
            rw [← hje, hoj] at ho2
            injection ho2 with ho2
            subst ho2
            exact hnot e' he' hb' heq
          · rw [getD_set_ne true hje]; exact hu
      · rw [Array.setIfInBounds_comm _ _ hji]
        exact h3.2.2
theorem wpAnyL_take {i : Nat} {oi : Oper} {v : Value} {fuel : Nat} {listed : Array Bool} {a : Act} {w : World} (hi : ops[i]? = some oi)
    (hs : Region.noSelect ops = true) (hf : (Region.free md ops listed i && lastWait md ops nl listed i) = true) (hr : (Region.ready md ops listed).contains i = true)
    (hQ : ∀ c a w, Q (.panic c) (a.put oi.dst v) w → Q (.panic c) a w) (hy : YieldsIf P ops S oi v a) (hS : S w)
    (h : wpAnyL P md ops Q S nl fuel (listed.setIfInBounds i true) (a.put oi.dst v) w) : wpAnyL P md ops Q S nl (fuel + 1) listed a w := by
  simp only [Bool.and_eq_true] at hf
  exact wpAnyL_first hi (Region.noSelect_spec hs) hQ fuel listed a w (fun j oj hj hne hun hno => Region.free_spec hi hf.1 j oj hj hne hun hno) (lastWait_spec hf.2) (by simpa using hr) hy hS h
/-- the one operation that may come up comes up -/
theorem wpAnyL_one {i : Nat} {o : Oper} {fuel : Nat} {listed : Array Bool} {a : Act} {w : World} (hr : Region.ready md ops listed = [i]) (ho : ops[i]? = some o)
    (h : ∀ K' : Act → World → Prop, Shut (∀ a w, (i < nl → S w) → ((i < nl → S w) → wpAnyL P md ops Q S nl fuel (listed.setIfInBounds i true) a w) → K' a w) → if Region.wanted o (yielded ops a.tmps) = true then Oper.wp P o a w K' Q else K' (a.put o.dst undef) w) :
    wpAnyL P md ops Q S nl (fuel + 1) listed a w := by
  refine ⟨fun h0 => (by rw [hr] at h0; cases h0), fun j hj => ?_⟩
  rw [hr] at hj
  obtain rfl : j = i := by simpa using hj
  exact wpOp_step ho (fun K' hK => h K' (fun a w hS hW => hK a w ⟨hS, hW hS⟩))
/-- one of two comes up -/
theorem wpAnyL_two {i j : Nat} {oi oj : Oper} {fuel : Nat} {listed : Array Bool} {a : Act} {w : World} (hr : Region.ready md ops listed = [i, j]) (hoi : ops[i]? = some oi) (hoj : ops[j]? = some oj)
    (h1 : ∀ K' : Act → World → Prop, Shut (∀ a w, (i < nl → S w) → ((i < nl → S w) → wpAnyL P md ops Q S nl fuel (listed.setIfInBounds i true) a w) → K' a w) → if Region.wanted oi (yielded ops a.tmps) = true then Oper.wp P oi a w K' Q else K' (a.put oi.dst undef) w)
    (h2 : ∀ K' : Act → World → Prop, Shut (∀ a w, (j < nl → S w) → ((j < nl → S w) → wpAnyL P md ops Q S nl fuel (listed.setIfInBounds j true) a w) → K' a w) → if Region.wanted oj (yielded ops a.tmps) = true then Oper.wp P oj a w K' Q else K' (a.put oj.dst undef) w) :
    wpAnyL P md ops Q S nl (fuel + 1) listed a w := by
  refine ⟨fun h0 => (by rw [hr] at h0; cases h0), fun k hk => ?_⟩
  rw [hr] at hk
  rcases List.mem_cons.1 hk with rfl | hk
  · exact wpOp_step hoi (fun K' hK => h1 K' (fun a w hS hW => hK a w ⟨hS, hW hS⟩))
  · obtain rfl : k = j := by simpa using hk
    exact wpOp_step hoj (fun K' hK => h2 K' (fun a w hS hW => hK a w ⟨hS, hW hS⟩))
theorem wpAnyL_done {listed : Array Bool} {a : Act} {w : World} (hr : Region.ready md ops listed = []) (h : Q .normal a w) :
    ∀ fuel, wpAnyL P md ops Q S nl fuel listed a w
  | 0 => ⟨hr, h⟩
  | _ + 1 => ⟨fun _ => h, by rw [hr]; simp⟩
theorem wp_region_L {id : Nat} {a : Act} {w : World} (hm : P.follows .mixedOrders = true) (hS : S w.drew)
    (h : S w.drew → wpAnyL P .any ops Q S nl ops.size (Array.replicate ops.size false) a w.drew) : (Code.region id ops true).wp P Q a w :=
  wp_region_any hm (wpAny_of_L _ _ _ _ (h hS))
end
end Go.Proofs.YtnpeokgjfnobmaaDoor

/-
  The reference: is a list of limbs just a number, in its form?
-/
namespace Go.Proofs.YtnpeokgjfnobmaaDoor
set_option linter.unusedVariables false
set_option linter.unusedSimpArgs false
open Go.RowKit
set_option linter.unusedVariables false
theorem Sl.last {k : IntKind} {w : World} {s : Value} {l : List Int} (h : Sl k w s l) (hne : l ≠ []) : ∃ ad c, s = .slice (some ad) l.length c ∧ l.length ≤ c ∧ ad.block < w.heap.size ∧ w.cell? (ad.add (l.length - 1)) = some (.int k (l.getLast hne)) := by
  have h0 : 0 < l.length := List.length_pos_iff.2 hne
  obtain ⟨ad, c, e, hc, hb, hcell⟩ := h.at_ (l.length - 1) (by omega)
  refine ⟨ad, c, e, hc, hb, ?_⟩
  rw [hcell, List.getLast_eq_getElem, List.getD_eq_getElem?_getD, List.getElem?_eq_getElem (by omega)]; rfl
namespace ZC
open Z
/-- a list of limbs is just the number, in its form -/
def Is (l : List Int) (z : Int) : Prop := Nz l ∧ L.lv l = z
open Classical in
set_option maxHeartbeats 8000000 in
theorem Limbed_c (s v : Value) (l : List Int) (z : Int) (w : World) (hs : Sl .u32 w s l) (hl : l.length ≤ 30000) (hL : L.Lim l) (hv : ZV w v z) (bz : z.natAbs < big 1000000) :
    Calls Tryd.prog 19 #[s, v] w fun e w' => e = .returned (.bool (decide (Is l z))) ∧ Below w.heap.size w w' := by
  obtain ⟨b, A, n, c, rfl, hv⟩ := hv
  have PL := Lib.hid (fun W (h : Below w.heap.size w W) => ZLimbs_c l.length s l W (hs.below h) (Nat.le_refl _) hl hL)
  have PC := Lib.hid (fun W va (h : Below w.heap.size w W) (h2 : ZV W va (L.lv l)) => ZCmp_c va _ _ z W h2 (hv.below h).v (L.lv_big hL hl) bz)
  have N0 := Lib.hid (Blk.new w 34 #[.bool b, .slice A n c])
  have hres : Nz l → decide (Is l z) = (cmpv (L.lv l) z == 0) := by
    intro h
    unfold Is cmpv
    by_cases h1 : L.lv l < z
    · rw [if_pos h1]; simp [h]; omega
    · by_cases h2 : z < L.lv l
      · rw [if_neg h1, if_pos h2]; simp [h]; omega
      · rw [if_neg h1, if_neg h2]; simp [h]; omega
  by_cases hne : l = []
  · obtain ⟨A', c', rfl, hc, _⟩ := hs.open_
    have e0 : ((l.length : Int) == 0) = true := by simp [hne]
    obtain ⟨m, hm⟩ : ∃ m, m = l.length := ⟨_, rfl⟩
    rw [← hm] at PL e0 hc ⊢
    rw [hres (by intro h; exact absurd hne h)]
    generalize cmpv (L.lv l) z = cv at PC ⊢
    clear hs hl hL hv bz hm hne hres
    · go_enter Tryd.func19, Tryd.ntmps19
      go_wp2
      (refine wp_region_L (S := fun w' => w'.cell? ⟨w.heap.size, 0, none⟩ = some (.bool b) ∧ w'.cell? ⟨w.heap.size, 1, none⟩ = some (.slice A n c)) (nl := 1000000) (by kernel_rfl) ?_ (fun hHeld => ?_); focus (go_keep))
      (refine wpAnyL_take (i := 0) (oi := _) (v := ?_) rfl (by kernel_rfl) (by kernel_rfl) (by kernel_rfl) (fun _ _ _ h => h) (Or.inl ⟨by first | rfl | kernel_rfl, ?hy1⟩) (by assumption) ?rs1; (case hy1 => (intro w hSw; (try dsimp only at hSw); go_simp; first | done | with_reducible rfl)); case' rs1 => (simp only [List.getElem_toArray, List.getElem_cons_zero, List.getElem_cons_succ, Act.put, List.setIfInBounds_toArray, List.set_cons_zero, List.set_cons_succ])); (refine wpAnyL_take (i := 1) (oi := _) (v := ?_) rfl (by kernel_rfl) (by kernel_rfl) (by kernel_rfl) (fun _ _ _ h => h) (Or.inl ⟨by first | rfl | kernel_rfl, ?hy2⟩) (by assumption) ?rs2; (case hy2 => (intro w hSw; (try dsimp only at hSw); go_simp; first | done | with_reducible rfl)); case' rs2 => (simp only [List.getElem_toArray, List.getElem_cons_zero, List.getElem_cons_succ, Act.put, List.setIfInBounds_toArray, List.set_cons_zero, List.set_cons_succ])); (refine wpAnyL_take (i := 2) (oi := _) (v := ?_) rfl (by kernel_rfl) (by kernel_rfl) (by kernel_rfl) (fun _ _ _ h => h) (Or.inl ⟨by first | rfl | kernel_rfl, ?hy3⟩) (by assumption) ?rs3; (case hy3 => (intro w hSw; (try dsimp only at hSw); go_simp; first | done | with_reducible rfl)); case' rs3 => (simp only [List.getElem_toArray, List.getElem_cons_zero, List.getElem_cons_succ, Act.put, List.setIfInBounds_toArray, List.set_cons_zero, List.set_cons_succ])); (refine wpAnyL_take (i := 3) (oi := _) (v := ?_) rfl (by kernel_rfl) (by kernel_rfl) (by kernel_rfl) (fun _ _ _ h => h) (Or.inl ⟨by first | rfl | kernel_rfl, ?hy4⟩) (by assumption) ?rs4; (case hy4 => (intro w hSw; (try dsimp only at hSw); go_simp; first | done | with_reducible rfl)); case' rs4 => (simp only [List.getElem_toArray, List.getElem_cons_zero, List.getElem_cons_succ, Act.put, List.setIfInBounds_toArray, List.set_cons_zero, List.set_cons_succ])); (refine wpAnyL_take (i := 4) (oi := _) (v := undef) rfl (by kernel_rfl) (by kernel_rfl) (by kernel_rfl) (fun _ _ _ h => h) (Or.inr ⟨by first | rfl | kernel_rfl, rfl⟩) (by assumption) ?rs5; case' rs5 => (simp only [List.getElem_toArray, List.getElem_cons_zero, List.getElem_cons_succ, Act.put, List.setIfInBounds_toArray, List.set_cons_zero, List.set_cons_succ])); (refine wpAnyL_take (i := 5) (oi := _) (v := undef) rfl (by kernel_rfl) (by kernel_rfl) (by kernel_rfl) (fun _ _ _ h => h) (Or.inr ⟨by first | rfl | kernel_rfl, rfl⟩) (by assumption) ?rs6; case' rs6 => (simp only [List.getElem_toArray, List.getElem_cons_zero, List.getElem_cons_succ, Act.put, List.setIfInBounds_toArray, List.set_cons_zero, List.set_cons_succ])); (refine wpAnyL_take (i := 6) (oi := _) (v := undef) rfl (by kernel_rfl) (by kernel_rfl) (by kernel_rfl) (fun _ _ _ h => h) (Or.inr ⟨by first | rfl | kernel_rfl, rfl⟩) (by assumption) ?rs7; case' rs7 => (simp only [List.getElem_toArray, List.getElem_cons_zero, List.getElem_cons_succ, Act.put, List.setIfInBounds_toArray, List.set_cons_zero, List.set_cons_succ])); (refine wpAnyL_take (i := 7) (oi := _) (v := undef) rfl (by kernel_rfl) (by kernel_rfl) (by kernel_rfl) (fun _ _ _ h => h) (Or.inr ⟨by first | rfl | kernel_rfl, rfl⟩) (by assumption) ?rs8; case' rs8 => (simp only [List.getElem_toArray, List.getElem_cons_zero, List.getElem_cons_succ, Act.put, List.setIfInBounds_toArray, List.set_cons_zero, List.set_cons_succ])); (refine wpAnyL_take (i := 8) (oi := _) (v := undef) rfl (by kernel_rfl) (by kernel_rfl) (by kernel_rfl) (fun _ _ _ h => h) (Or.inr ⟨by first | rfl | kernel_rfl, rfl⟩) (by assumption) ?rs9; case' rs9 => (simp only [List.getElem_toArray, List.getElem_cons_zero, List.getElem_cons_succ, Act.put, List.setIfInBounds_toArray, List.set_cons_zero, List.set_cons_succ])); (refine wpAnyL_take (i := 9) (oi := _) (v := undef) rfl (by kernel_rfl) (by kernel_rfl) (by kernel_rfl) (fun _ _ _ h => h) (Or.inr ⟨by first | rfl | kernel_rfl, rfl⟩) (by assumption) ?rs10; case' rs10 => (simp only [List.getElem_toArray, List.getElem_cons_zero, List.getElem_cons_succ, Act.put, List.setIfInBounds_toArray, List.set_cons_zero, List.set_cons_succ])); (refine wpAnyL_take (i := 10) (oi := _) (v := undef) rfl (by kernel_rfl) (by kernel_rfl) (by kernel_rfl) (fun _ _ _ h => h) (Or.inr ⟨by first | rfl | kernel_rfl, rfl⟩) (by assumption) ?rs11; case' rs11 => (simp only [List.getElem_toArray, List.getElem_cons_zero, List.getElem_cons_succ, Act.put, List.setIfInBounds_toArray, List.set_cons_zero, List.set_cons_succ])); (refine wpAnyL_take (i := 11) (oi := _) (v := ?_) rfl (by kernel_rfl) (by kernel_rfl) (by kernel_rfl) (fun _ _ _ h => h) (Or.inl ⟨by first | rfl | kernel_rfl, ?hy12⟩) (by assumption) ?rs12; (case hy12 => (intro w hSw; (try dsimp only at hSw); go_simp; first | done | with_reducible rfl)); case' rs12 => (simp only [List.getElem_toArray, List.getElem_cons_zero, List.getElem_cons_succ, Act.put, List.setIfInBounds_toArray, List.set_cons_zero, List.set_cons_succ])); (refine wpAnyL_take (i := 12) (oi := _) (v := ?_) rfl (by kernel_rfl) (by kernel_rfl) (by kernel_rfl) (fun _ _ _ h => h) (Or.inl ⟨by first | rfl | kernel_rfl, ?hy13⟩) (by assumption) ?rs13; (case hy13 => (intro w hSw; (try dsimp only at hSw); go_simp; first | done | with_reducible rfl)); case' rs13 => (simp only [List.getElem_toArray, List.getElem_cons_zero, List.getElem_cons_succ, Act.put, List.setIfInBounds_toArray, List.set_cons_zero, List.set_cons_succ])); (refine wpAnyL_take (i := 13) (oi := _) (v := ?_) rfl (by kernel_rfl) (by kernel_rfl) (by kernel_rfl) (fun _ _ _ h => h) (Or.inl ⟨by first | rfl | kernel_rfl, ?hy14⟩) (by assumption) ?rs14; (case hy14 => (intro w hSw; (try dsimp only at hSw); go_simp; first | done | with_reducible rfl)); case' rs14 => (simp only [List.getElem_toArray, List.getElem_cons_zero, List.getElem_cons_succ, Act.put, List.setIfInBounds_toArray, List.set_cons_zero, List.set_cons_succ])); (refine wpAnyL_take (i := 15) (oi := _) (v := ?_) rfl (by kernel_rfl) (by kernel_rfl) (by kernel_rfl) (fun _ _ _ h => h) (Or.inl ⟨by first | rfl | kernel_rfl, ?hy15⟩) (by assumption) ?rs15; (case hy15 => (intro w hSw; (try dsimp only at hSw); go_simp; first | done | with_reducible rfl)); case' rs15 => (simp only [List.getElem_toArray, List.getElem_cons_zero, List.getElem_cons_succ, Act.put, List.setIfInBounds_toArray, List.set_cons_zero, List.set_cons_succ])); skip
      (refine wpAnyL_one (i := 14) (o := _) (by kernel_rfl) rfl (fun K hK => ?_); clear hHeld; simp only [List.getElem_toArray, List.getElem_cons_zero, List.getElem_cons_succ]; go_simp; (go_at_call 15; (with_reducible refine (PL.out _ (below1 w _).drew).mono ?_); rintro e w1 ⟨_, rfl, ⟨b1, A1, n1, c1, rfl, hv1⟩, hb1⟩; have M1 := Blk.after hb1 N0.out rfl (by simp); have BW1 : Below w.heap.size w w1 := (below1 w _).drew.trans (hb1.mono (by simp)); have p10 := M1.at_ 0 rfl; have p11 := M1.at_ 1 rfl); refine hK.out _ _ ?_ (fun hHeld => ?_); focus (intro _; exact ⟨p10, p11⟩)); have hHeld := hHeld (by decide); clear hK K; (try simp only [Act.put, List.setIfInBounds_toArray, List.set_cons_zero, List.set_cons_succ])
      (refine wpAnyL_one (i := 16) (o := _) (by kernel_rfl) rfl (fun K hK => ?_); clear hHeld; simp only [List.getElem_toArray, List.getElem_cons_zero, List.getElem_cons_succ]; go_simp; (go_at_call 16; (with_reducible refine (PC.out _ _ BW1 hv1.v).mono ?_); rintro e w2 ⟨rfl, hb2⟩; have BW2 : Below w.heap.size w w2 := BW1.trans (hb2.mono BW1.size); have M2 := M1.below hb2 M1.lt; have p20 := M2.at_ 0 rfl; have p21 := M2.at_ 1 rfl); refine hK.out _ _ ?_ (fun hHeld => ?_); focus (intro _; exact ⟨p20, p21⟩)); have hHeld := hHeld (by decide); clear hK K; (try simp only [Act.put, List.setIfInBounds_toArray, List.set_cons_zero, List.set_cons_succ])
      (refine wpAnyL_take (i := 17) (oi := _) (v := ?_) rfl (by kernel_rfl) (by kernel_rfl) (by kernel_rfl) (fun _ _ _ h => h) (Or.inl ⟨by first | rfl | kernel_rfl, ?hy16⟩) (by assumption) ?rs16; (case hy16 => (intro w hSw; (try dsimp only at hSw); go_simp; first | done | with_reducible rfl)); case' rs16 => (simp only [List.getElem_toArray, List.getElem_cons_zero, List.getElem_cons_succ, Act.put, List.setIfInBounds_toArray, List.set_cons_zero, List.set_cons_succ])); (refine wpAnyL_take (i := 18) (oi := _) (v := ?_) rfl (by kernel_rfl) (by kernel_rfl) (by kernel_rfl) (fun _ _ _ h => h) (Or.inl ⟨by first | rfl | kernel_rfl, ?hy17⟩) (by assumption) ?rs17; (case hy17 => (intro w hSw; (try dsimp only at hSw); go_simp; first | done | with_reducible rfl)); case' rs17 => (simp only [List.getElem_toArray, List.getElem_cons_zero, List.getElem_cons_succ, Act.put, List.setIfInBounds_toArray, List.set_cons_zero, List.set_cons_succ])); (refine wpAnyL_take (i := 19) (oi := _) (v := ?_) rfl (by kernel_rfl) (by kernel_rfl) (by kernel_rfl) (fun _ _ _ h => h) (Or.inl ⟨by first | rfl | kernel_rfl, ?hy18⟩) (by assumption) ?rs18; (case hy18 => (intro w hSw; (try dsimp only at hSw); go_simp; first | done | with_reducible rfl)); case' rs18 => (simp only [List.getElem_toArray, List.getElem_cons_zero, List.getElem_cons_succ, Act.put, List.setIfInBounds_toArray, List.set_cons_zero, List.set_cons_succ])); skip
      refine wpAnyL_done (by kernel_rfl) ?_ _
      go_wp2
      go_ret
      exact ⟨rfl, BW2⟩
  · obtain ⟨ad, c', rfl, hc, had, hcell⟩ := hs.last hne
    have e0 : ((l.length : Int) == 0) = false := by have := List.length_pos_iff.2 hne; simp; omega
    have h1 : 1 ≤ l.length := List.length_pos_iff.2 hne
    obtain ⟨m, hm⟩ : ∃ m, m = l.length := ⟨_, rfl⟩
    rw [← hm] at PL e0 hc hcell h1 ⊢
    have hm3 : m ≤ 30000 := by rw [hm]; exact hl
    obtain ⟨d, hd⟩ : ∃ d, d = l.getLast hne := ⟨_, rfl⟩
    rw [← hd] at hcell
    by_cases hd0 : d = 0
    · have e1 : (d != 0) = false := by simp [hd0]
      have hr : decide (Is l z) = false := by
        simp only [decide_eq_false_iff_not]
        intro h; exact h.1 hne (by rw [← hd]; exact hd0)
      rw [hr]
      clear hr hres hd0 hd hm hne PL PC N0 hs hl hL hv bz
      go_enter Tryd.func19, Tryd.ntmps19
      go_wp2
      have hcell := (World.cell?_alloc_lt w (.cells #[.bool b, .slice A n c] 34) (ad.add (m - 1)) (by rw [block_of_add]; exact had)).trans hcell
      have i0 : (1 : Int) ≤ (m : Int) := by omega
      have i1 : (0 : Int) ≤ (m : Int) - 1 := by omega
      have i2 : (m : Int) - 1 < (m : Int) := by omega
      have i3 : ((m : Int) - 1).toNat = m - 1 := by omega
      have i4 : IntKind.i64.wrap ((m : Int) - 1) = (m : Int) - 1 := IntWalk.i64_in _ (by omega)
      (refine wp_region_L (S := fun w' => w'.cell? (ad.add (m - 1)) = some (.int .u32 d)) (nl := 1000000) (by kernel_rfl) ?_ (fun hHeld => ?_); focus (exact hcell))
      (refine wpAnyL_take (i := 0) (oi := _) (v := ?_) rfl (by kernel_rfl) (by kernel_rfl) (by kernel_rfl) (fun _ _ _ h => h) (Or.inl ⟨by first | rfl | kernel_rfl, ?hy19⟩) (by assumption) ?rs19; (case hy19 => (intro w hSw; (try dsimp only at hSw); go_simp; first | done | with_reducible rfl)); case' rs19 => (simp only [List.getElem_toArray, List.getElem_cons_zero, List.getElem_cons_succ, Act.put, List.setIfInBounds_toArray, List.set_cons_zero, List.set_cons_succ])); (refine wpAnyL_take (i := 1) (oi := _) (v := ?_) rfl (by kernel_rfl) (by kernel_rfl) (by kernel_rfl) (fun _ _ _ h => h) (Or.inl ⟨by first | rfl | kernel_rfl, ?hy20⟩) (by assumption) ?rs20; (case hy20 => (intro w hSw; (try dsimp only at hSw); go_simp; first | done | with_reducible rfl)); case' rs20 => (simp only [List.getElem_toArray, List.getElem_cons_zero, List.getElem_cons_succ, Act.put, List.setIfInBounds_toArray, List.set_cons_zero, List.set_cons_succ])); (refine wpAnyL_take (i := 2) (oi := _) (v := ?_) rfl (by kernel_rfl) (by kernel_rfl) (by kernel_rfl) (fun _ _ _ h => h) (Or.inl ⟨by first | rfl | kernel_rfl, ?hy21⟩) (by assumption) ?rs21; (case hy21 => (intro w hSw; (try dsimp only at hSw); go_simp; first | done | with_reducible rfl)); case' rs21 => (simp only [List.getElem_toArray, List.getElem_cons_zero, List.getElem_cons_succ, Act.put, List.setIfInBounds_toArray, List.set_cons_zero, List.set_cons_succ])); (refine wpAnyL_take (i := 3) (oi := _) (v := ?_) rfl (by kernel_rfl) (by kernel_rfl) (by kernel_rfl) (fun _ _ _ h => h) (Or.inl ⟨by first | rfl | kernel_rfl, ?hy22⟩) (by assumption) ?rs22; (case hy22 => (intro w hSw; (try dsimp only at hSw); go_simp; first | done | with_reducible rfl)); case' rs22 => (simp only [List.getElem_toArray, List.getElem_cons_zero, List.getElem_cons_succ, Act.put, List.setIfInBounds_toArray, List.set_cons_zero, List.set_cons_succ])); (refine wpAnyL_take (i := 4) (oi := _) (v := ?_) rfl (by kernel_rfl) (by kernel_rfl) (by kernel_rfl) (fun _ _ _ h => h) (Or.inl ⟨by first | rfl | kernel_rfl, ?hy23⟩) (by assumption) ?rs23; (case hy23 => (intro w hSw; (try dsimp only at hSw); go_simp; first | done | with_reducible rfl)); case' rs23 => (simp only [List.getElem_toArray, List.getElem_cons_zero, List.getElem_cons_succ, Act.put, List.setIfInBounds_toArray, List.set_cons_zero, List.set_cons_succ])); (refine wpAnyL_take (i := 5) (oi := _) (v := ?_) rfl (by kernel_rfl) (by kernel_rfl) (by kernel_rfl) (fun _ _ _ h => h) (Or.inl ⟨by first | rfl | kernel_rfl, ?hy24⟩) (by assumption) ?rs24; (case hy24 => (intro w hSw; (try dsimp only at hSw); go_simp; first | done | with_reducible rfl)); case' rs24 => (simp only [List.getElem_toArray, List.getElem_cons_zero, List.getElem_cons_succ, Act.put, List.setIfInBounds_toArray, List.set_cons_zero, List.set_cons_succ])); (refine wpAnyL_take (i := 6) (oi := _) (v := ?_) rfl (by kernel_rfl) (by kernel_rfl) (by kernel_rfl) (fun _ _ _ h => h) (Or.inl ⟨by first | rfl | kernel_rfl, ?hy25⟩) (by assumption) ?rs25; (case hy25 => (intro w hSw; (try dsimp only at hSw); go_simp; first | done | with_reducible rfl)); case' rs25 => (simp only [List.getElem_toArray, List.getElem_cons_zero, List.getElem_cons_succ, Act.put, List.setIfInBounds_toArray, List.set_cons_zero, List.set_cons_succ])); (refine wpAnyL_take (i := 7) (oi := _) (v := ?_) rfl (by kernel_rfl) (by kernel_rfl) (by kernel_rfl) (fun _ _ _ h => h) (Or.inl ⟨by first | rfl | kernel_rfl, ?hy26⟩) (by assumption) ?rs26; (case hy26 => (intro w hSw; (try dsimp only at hSw); go_simp; first | done | with_reducible rfl)); case' rs26 => (simp only [List.getElem_toArray, List.getElem_cons_zero, List.getElem_cons_succ, Act.put, List.setIfInBounds_toArray, List.set_cons_zero, List.set_cons_succ])); (refine wpAnyL_take (i := 8) (oi := _) (v := ?_) rfl (by kernel_rfl) (by kernel_rfl) (by kernel_rfl) (fun _ _ _ h => h) (Or.inl ⟨by first | rfl | kernel_rfl, ?hy27⟩) (by assumption) ?rs27; (case hy27 => (intro w hSw; (try dsimp only at hSw); go_simp; first | done | with_reducible rfl)); case' rs27 => (simp only [List.getElem_toArray, List.getElem_cons_zero, List.getElem_cons_succ, Act.put, List.setIfInBounds_toArray, List.set_cons_zero, List.set_cons_succ])); (refine wpAnyL_take (i := 9) (oi := _) (v := ?_) rfl (by kernel_rfl) (by kernel_rfl) (by kernel_rfl) (fun _ _ _ h => h) (Or.inl ⟨by first | rfl | kernel_rfl, ?hy28⟩) (by assumption) ?rs28; (case hy28 => (intro w hSw; (try dsimp only at hSw); go_simp; first | done | with_reducible rfl)); case' rs28 => (simp only [List.getElem_toArray, List.getElem_cons_zero, List.getElem_cons_succ, Act.put, List.setIfInBounds_toArray, List.set_cons_zero, List.set_cons_succ])); (refine wpAnyL_take (i := 10) (oi := _) (v := ?_) rfl (by kernel_rfl) (by kernel_rfl) (by kernel_rfl) (fun _ _ _ h => h) (Or.inl ⟨by first | rfl | kernel_rfl, ?hy29⟩) (by assumption) ?rs29; (case hy29 => (intro w hSw; (try dsimp only at hSw); go_simp; first | done | with_reducible rfl)); case' rs29 => (simp only [List.getElem_toArray, List.getElem_cons_zero, List.getElem_cons_succ, Act.put, List.setIfInBounds_toArray, List.set_cons_zero, List.set_cons_succ])); (refine wpAnyL_take (i := 11) (oi := _) (v := ?_) rfl (by kernel_rfl) (by kernel_rfl) (by kernel_rfl) (fun _ _ _ h => h) (Or.inl ⟨by first | rfl | kernel_rfl, ?hy30⟩) (by assumption) ?rs30; (case hy30 => (intro w hSw; (try dsimp only at hSw); go_simp; first | done | with_reducible rfl)); case' rs30 => (simp only [List.getElem_toArray, List.getElem_cons_zero, List.getElem_cons_succ, Act.put, List.setIfInBounds_toArray, List.set_cons_zero, List.set_cons_succ])); (refine wpAnyL_take (i := 12) (oi := _) (v := ?_) rfl (by kernel_rfl) (by kernel_rfl) (by kernel_rfl) (fun _ _ _ h => h) (Or.inl ⟨by first | rfl | kernel_rfl, ?hy31⟩) (by assumption) ?rs31; (case hy31 => (intro w hSw; (try dsimp only at hSw); go_simp; first | done | with_reducible rfl)); case' rs31 => (simp only [List.getElem_toArray, List.getElem_cons_zero, List.getElem_cons_succ, Act.put, List.setIfInBounds_toArray, List.set_cons_zero, List.set_cons_succ])); (refine wpAnyL_take (i := 13) (oi := _) (v := undef) rfl (by kernel_rfl) (by kernel_rfl) (by kernel_rfl) (fun _ _ _ h => h) (Or.inr ⟨by first | rfl | kernel_rfl, rfl⟩) (by assumption) ?rs32; case' rs32 => (simp only [List.getElem_toArray, List.getElem_cons_zero, List.getElem_cons_succ, Act.put, List.setIfInBounds_toArray, List.set_cons_zero, List.set_cons_succ])); (refine wpAnyL_take (i := 14) (oi := _) (v := undef) rfl (by kernel_rfl) (by kernel_rfl) (by kernel_rfl) (fun _ _ _ h => h) (Or.inr ⟨by first | rfl | kernel_rfl, rfl⟩) (by assumption) ?rs33; case' rs33 => (simp only [List.getElem_toArray, List.getElem_cons_zero, List.getElem_cons_succ, Act.put, List.setIfInBounds_toArray, List.set_cons_zero, List.set_cons_succ])); (refine wpAnyL_take (i := 15) (oi := _) (v := undef) rfl (by kernel_rfl) (by kernel_rfl) (by kernel_rfl) (fun _ _ _ h => h) (Or.inr ⟨by first | rfl | kernel_rfl, rfl⟩) (by assumption) ?rs34; case' rs34 => (simp only [List.getElem_toArray, List.getElem_cons_zero, List.getElem_cons_succ, Act.put, List.setIfInBounds_toArray, List.set_cons_zero, List.set_cons_succ])); (refine wpAnyL_take (i := 16) (oi := _) (v := undef) rfl (by kernel_rfl) (by kernel_rfl) (by kernel_rfl) (fun _ _ _ h => h) (Or.inr ⟨by first | rfl | kernel_rfl, rfl⟩) (by assumption) ?rs35; case' rs35 => (simp only [List.getElem_toArray, List.getElem_cons_zero, List.getElem_cons_succ, Act.put, List.setIfInBounds_toArray, List.set_cons_zero, List.set_cons_succ])); (refine wpAnyL_take (i := 17) (oi := _) (v := undef) rfl (by kernel_rfl) (by kernel_rfl) (by kernel_rfl) (fun _ _ _ h => h) (Or.inr ⟨by first | rfl | kernel_rfl, rfl⟩) (by assumption) ?rs36; case' rs36 => (simp only [List.getElem_toArray, List.getElem_cons_zero, List.getElem_cons_succ, Act.put, List.setIfInBounds_toArray, List.set_cons_zero, List.set_cons_succ])); (refine wpAnyL_take (i := 18) (oi := _) (v := ?_) rfl (by kernel_rfl) (by kernel_rfl) (by kernel_rfl) (fun _ _ _ h => h) (Or.inl ⟨by first | rfl | kernel_rfl, ?hy37⟩) (by assumption) ?rs37; (case hy37 => (intro w hSw; (try dsimp only at hSw); go_simp; first | done | with_reducible rfl)); case' rs37 => (simp only [List.getElem_toArray, List.getElem_cons_zero, List.getElem_cons_succ, Act.put, List.setIfInBounds_toArray, List.set_cons_zero, List.set_cons_succ])); (refine wpAnyL_take (i := 19) (oi := _) (v := ?_) rfl (by kernel_rfl) (by kernel_rfl) (by kernel_rfl) (fun _ _ _ h => h) (Or.inl ⟨by first | rfl | kernel_rfl, ?hy38⟩) (by assumption) ?rs38; (case hy38 => (intro w hSw; (try dsimp only at hSw); go_simp; first | done | with_reducible rfl)); case' rs38 => (simp only [List.getElem_toArray, List.getElem_cons_zero, List.getElem_cons_succ, Act.put, List.setIfInBounds_toArray, List.set_cons_zero, List.set_cons_succ])); skip
      refine wpAnyL_done (by kernel_rfl) ?_ _
      go_wp2
      go_ret
      exact ⟨rfl, (below1 w _).drew⟩
    · have e1 : (d != 0) = true := by simp [hd0]
      rw [hres (by intro h; rw [← hd]; exact hd0)]
      generalize cmpv (L.lv l) z = cv at PC ⊢
      clear hs hl hL hv bz hm hres hd hd0 hne
      have HC := Lib.hid hcell
      clear hcell
      have HB : ∀ W, Below w.heap.size w W → W.cell? (ad.add (m - 1)) = some (.int .u32 d) := fun W h => (h.cell (by rw [block_of_add]; exact had)).trans HC.out
      have HB := Lib.hid HB
      go_enter Tryd.func19, Tryd.ntmps19
      go_wp2
      have i0 : (1 : Int) ≤ (m : Int) := by omega
      have i1 : (0 : Int) ≤ (m : Int) - 1 := by omega
      have i2 : (m : Int) - 1 < (m : Int) := by omega
      have i3 : ((m : Int) - 1).toNat = m - 1 := by omega
      have i4 : IntKind.i64.wrap ((m : Int) - 1) = (m : Int) - 1 := IntWalk.i64_in _ (by omega)
      (refine wp_region_L (S := fun w' => w'.cell? ⟨w.heap.size, 0, none⟩ = some (.bool b) ∧ w'.cell? ⟨w.heap.size, 1, none⟩ = some (.slice A n c) ∧ w'.cell? (ad.add (m - 1)) = some (.int .u32 d)) (nl := 1000000) (by kernel_rfl) ?_ (fun hHeld => ?_); focus (exact ⟨N0.out.at_ 0 rfl, N0.out.at_ 1 rfl, HB.out _ (below1 w _).drew⟩))
      (refine wpAnyL_take (i := 0) (oi := _) (v := ?_) rfl (by kernel_rfl) (by kernel_rfl) (by kernel_rfl) (fun _ _ _ h => h) (Or.inl ⟨by first | rfl | kernel_rfl, ?hy39⟩) (by assumption) ?rs39; (case hy39 => (intro w hSw; (try dsimp only at hSw); go_simp; first | done | with_reducible rfl)); case' rs39 => (simp only [List.getElem_toArray, List.getElem_cons_zero, List.getElem_cons_succ, Act.put, List.setIfInBounds_toArray, List.set_cons_zero, List.set_cons_succ])); (refine wpAnyL_take (i := 1) (oi := _) (v := ?_) rfl (by kernel_rfl) (by kernel_rfl) (by kernel_rfl) (fun _ _ _ h => h) (Or.inl ⟨by first | rfl | kernel_rfl, ?hy40⟩) (by assumption) ?rs40; (case hy40 => (intro w hSw; (try dsimp only at hSw); go_simp; first | done | with_reducible rfl)); case' rs40 => (simp only [List.getElem_toArray, List.getElem_cons_zero, List.getElem_cons_succ, Act.put, List.setIfInBounds_toArray, List.set_cons_zero, List.set_cons_succ])); (refine wpAnyL_take (i := 2) (oi := _) (v := ?_) rfl (by kernel_rfl) (by kernel_rfl) (by kernel_rfl) (fun _ _ _ h => h) (Or.inl ⟨by first | rfl | kernel_rfl, ?hy41⟩) (by assumption) ?rs41; (case hy41 => (intro w hSw; (try dsimp only at hSw); go_simp; first | done | with_reducible rfl)); case' rs41 => (simp only [List.getElem_toArray, List.getElem_cons_zero, List.getElem_cons_succ, Act.put, List.setIfInBounds_toArray, List.set_cons_zero, List.set_cons_succ])); (refine wpAnyL_take (i := 3) (oi := _) (v := ?_) rfl (by kernel_rfl) (by kernel_rfl) (by kernel_rfl) (fun _ _ _ h => h) (Or.inl ⟨by first | rfl | kernel_rfl, ?hy42⟩) (by assumption) ?rs42; (case hy42 => (intro w hSw; (try dsimp only at hSw); go_simp; first | done | with_reducible rfl)); case' rs42 => (simp only [List.getElem_toArray, List.getElem_cons_zero, List.getElem_cons_succ, Act.put, List.setIfInBounds_toArray, List.set_cons_zero, List.set_cons_succ])); (refine wpAnyL_take (i := 4) (oi := _) (v := ?_) rfl (by kernel_rfl) (by kernel_rfl) (by kernel_rfl) (fun _ _ _ h => h) (Or.inl ⟨by first | rfl | kernel_rfl, ?hy43⟩) (by assumption) ?rs43; (case hy43 => (intro w hSw; (try dsimp only at hSw); go_simp; first | done | with_reducible rfl)); case' rs43 => (simp only [List.getElem_toArray, List.getElem_cons_zero, List.getElem_cons_succ, Act.put, List.setIfInBounds_toArray, List.set_cons_zero, List.set_cons_succ])); (refine wpAnyL_take (i := 5) (oi := _) (v := ?_) rfl (by kernel_rfl) (by kernel_rfl) (by kernel_rfl) (fun _ _ _ h => h) (Or.inl ⟨by first | rfl | kernel_rfl, ?hy44⟩) (by assumption) ?rs44; (case hy44 => (intro w hSw; (try dsimp only at hSw); go_simp; first | done | with_reducible rfl)); case' rs44 => (simp only [List.getElem_toArray, List.getElem_cons_zero, List.getElem_cons_succ, Act.put, List.setIfInBounds_toArray, List.set_cons_zero, List.set_cons_succ])); (refine wpAnyL_take (i := 6) (oi := _) (v := ?_) rfl (by kernel_rfl) (by kernel_rfl) (by kernel_rfl) (fun _ _ _ h => h) (Or.inl ⟨by first | rfl | kernel_rfl, ?hy45⟩) (by assumption) ?rs45; (case hy45 => (intro w hSw; (try dsimp only at hSw); go_simp; first | done | with_reducible rfl)); case' rs45 => (simp only [List.getElem_toArray, List.getElem_cons_zero, List.getElem_cons_succ, Act.put, List.setIfInBounds_toArray, List.set_cons_zero, List.set_cons_succ])); (refine wpAnyL_take (i := 7) (oi := _) (v := ?_) rfl (by kernel_rfl) (by kernel_rfl) (by kernel_rfl) (fun _ _ _ h => h) (Or.inl ⟨by first | rfl | kernel_rfl, ?hy46⟩) (by assumption) ?rs46; (case hy46 => (intro w hSw; (try dsimp only at hSw); go_simp; first | done | with_reducible rfl)); case' rs46 => (simp only [List.getElem_toArray, List.getElem_cons_zero, List.getElem_cons_succ, Act.put, List.setIfInBounds_toArray, List.set_cons_zero, List.set_cons_succ])); (refine wpAnyL_take (i := 8) (oi := _) (v := ?_) rfl (by kernel_rfl) (by kernel_rfl) (by kernel_rfl) (fun _ _ _ h => h) (Or.inl ⟨by first | rfl | kernel_rfl, ?hy47⟩) (by assumption) ?rs47; (case hy47 => (intro w hSw; (try dsimp only at hSw); go_simp; first | done | with_reducible rfl)); case' rs47 => (simp only [List.getElem_toArray, List.getElem_cons_zero, List.getElem_cons_succ, Act.put, List.setIfInBounds_toArray, List.set_cons_zero, List.set_cons_succ])); (refine wpAnyL_take (i := 9) (oi := _) (v := ?_) rfl (by kernel_rfl) (by kernel_rfl) (by kernel_rfl) (fun _ _ _ h => h) (Or.inl ⟨by first | rfl | kernel_rfl, ?hy48⟩) (by assumption) ?rs48; (case hy48 => (intro w hSw; (try dsimp only at hSw); go_simp; first | done | with_reducible rfl)); case' rs48 => (simp only [List.getElem_toArray, List.getElem_cons_zero, List.getElem_cons_succ, Act.put, List.setIfInBounds_toArray, List.set_cons_zero, List.set_cons_succ])); (refine wpAnyL_take (i := 10) (oi := _) (v := ?_) rfl (by kernel_rfl) (by kernel_rfl) (by kernel_rfl) (fun _ _ _ h => h) (Or.inl ⟨by first | rfl | kernel_rfl, ?hy49⟩) (by assumption) ?rs49; (case hy49 => (intro w hSw; (try dsimp only at hSw); go_simp; first | done | with_reducible rfl)); case' rs49 => (simp only [List.getElem_toArray, List.getElem_cons_zero, List.getElem_cons_succ, Act.put, List.setIfInBounds_toArray, List.set_cons_zero, List.set_cons_succ])); (refine wpAnyL_take (i := 11) (oi := _) (v := ?_) rfl (by kernel_rfl) (by kernel_rfl) (by kernel_rfl) (fun _ _ _ h => h) (Or.inl ⟨by first | rfl | kernel_rfl, ?hy50⟩) (by assumption) ?rs50; (case hy50 => (intro w hSw; (try dsimp only at hSw); go_simp; first | done | with_reducible rfl)); case' rs50 => (simp only [List.getElem_toArray, List.getElem_cons_zero, List.getElem_cons_succ, Act.put, List.setIfInBounds_toArray, List.set_cons_zero, List.set_cons_succ])); (refine wpAnyL_take (i := 12) (oi := _) (v := ?_) rfl (by kernel_rfl) (by kernel_rfl) (by kernel_rfl) (fun _ _ _ h => h) (Or.inl ⟨by first | rfl | kernel_rfl, ?hy51⟩) (by assumption) ?rs51; (case hy51 => (intro w hSw; (try dsimp only at hSw); go_simp; first | done | with_reducible rfl)); case' rs51 => (simp only [List.getElem_toArray, List.getElem_cons_zero, List.getElem_cons_succ, Act.put, List.setIfInBounds_toArray, List.set_cons_zero, List.set_cons_succ])); (refine wpAnyL_take (i := 13) (oi := _) (v := ?_) rfl (by kernel_rfl) (by kernel_rfl) (by kernel_rfl) (fun _ _ _ h => h) (Or.inl ⟨by first | rfl | kernel_rfl, ?hy52⟩) (by assumption) ?rs52; (case hy52 => (intro w hSw; (try dsimp only at hSw); go_simp; first | done | with_reducible rfl)); case' rs52 => (simp only [List.getElem_toArray, List.getElem_cons_zero, List.getElem_cons_succ, Act.put, List.setIfInBounds_toArray, List.set_cons_zero, List.set_cons_succ])); (refine wpAnyL_take (i := 15) (oi := _) (v := ?_) rfl (by kernel_rfl) (by kernel_rfl) (by kernel_rfl) (fun _ _ _ h => h) (Or.inl ⟨by first | rfl | kernel_rfl, ?hy53⟩) (by assumption) ?rs53; (case hy53 => (intro w hSw; (try dsimp only at hSw); go_simp; first | done | with_reducible rfl)); case' rs53 => (simp only [List.getElem_toArray, List.getElem_cons_zero, List.getElem_cons_succ, Act.put, List.setIfInBounds_toArray, List.set_cons_zero, List.set_cons_succ])); skip
      (refine wpAnyL_one (i := 14) (o := _) (by kernel_rfl) rfl (fun K hK => ?_); clear hHeld; simp only [List.getElem_toArray, List.getElem_cons_zero, List.getElem_cons_succ]; go_simp; (go_at_call 15; (with_reducible refine (PL.out _ (below1 w _).drew).mono ?_); rintro e w1 ⟨_, rfl, ⟨b1, A1, n1, c1, rfl, hv1⟩, hb1⟩; have M1 := Blk.after hb1 N0.out rfl (by simp); have BW1 : Below w.heap.size w w1 := (below1 w _).drew.trans (hb1.mono (by simp)); have p10 := M1.at_ 0 rfl; have p11 := M1.at_ 1 rfl); refine hK.out _ _ ?_ (fun hHeld => ?_); focus (intro _; exact ⟨p10, p11, HB.out _ BW1⟩)); have hHeld := hHeld (by decide); clear hK K; (try simp only [Act.put, List.setIfInBounds_toArray, List.set_cons_zero, List.set_cons_succ])
      (refine wpAnyL_one (i := 16) (o := _) (by kernel_rfl) rfl (fun K hK => ?_); clear hHeld; simp only [List.getElem_toArray, List.getElem_cons_zero, List.getElem_cons_succ]; go_simp; (go_at_call 16; (with_reducible refine (PC.out _ _ BW1 hv1.v).mono ?_); rintro e w2 ⟨rfl, hb2⟩; have BW2 : Below w.heap.size w w2 := BW1.trans (hb2.mono BW1.size); have M2 := M1.below hb2 M1.lt; have p20 := M2.at_ 0 rfl; have p21 := M2.at_ 1 rfl); refine hK.out _ _ ?_ (fun hHeld => ?_); focus (intro _; exact ⟨p20, p21, HB.out _ BW2⟩)); have hHeld := hHeld (by decide); clear hK K; (try simp only [Act.put, List.setIfInBounds_toArray, List.set_cons_zero, List.set_cons_succ])
      (refine wpAnyL_take (i := 17) (oi := _) (v := ?_) rfl (by kernel_rfl) (by kernel_rfl) (by kernel_rfl) (fun _ _ _ h => h) (Or.inl ⟨by first | rfl | kernel_rfl, ?hy54⟩) (by assumption) ?rs54; (case hy54 => (intro w hSw; (try dsimp only at hSw); go_simp; first | done | with_reducible rfl)); case' rs54 => (simp only [List.getElem_toArray, List.getElem_cons_zero, List.getElem_cons_succ, Act.put, List.setIfInBounds_toArray, List.set_cons_zero, List.set_cons_succ])); (refine wpAnyL_take (i := 18) (oi := _) (v := ?_) rfl (by kernel_rfl) (by kernel_rfl) (by kernel_rfl) (fun _ _ _ h => h) (Or.inl ⟨by first | rfl | kernel_rfl, ?hy55⟩) (by assumption) ?rs55; (case hy55 => (intro w hSw; (try dsimp only at hSw); go_simp; first | done | with_reducible rfl)); case' rs55 => (simp only [List.getElem_toArray, List.getElem_cons_zero, List.getElem_cons_succ, Act.put, List.setIfInBounds_toArray, List.set_cons_zero, List.set_cons_succ])); (refine wpAnyL_take (i := 19) (oi := _) (v := ?_) rfl (by kernel_rfl) (by kernel_rfl) (by kernel_rfl) (fun _ _ _ h => h) (Or.inl ⟨by first | rfl | kernel_rfl, ?hy56⟩) (by assumption) ?rs56; (case hy56 => (intro w hSw; (try dsimp only at hSw); go_simp; first | done | with_reducible rfl)); case' rs56 => (simp only [List.getElem_toArray, List.getElem_cons_zero, List.getElem_cons_succ, Act.put, List.setIfInBounds_toArray, List.set_cons_zero, List.set_cons_succ])); skip
      refine wpAnyL_done (by kernel_rfl) ?_ _
      go_wp2
      go_ret
      exact ⟨rfl, BW2⟩
end ZC
end Go.Proofs.YtnpeokgjfnobmaaDoor

/-
  The reference: are limbs right? (LimbsRight, over a list of lists of limbs.)
-/
namespace Go.Proofs.YtnpeokgjfnobmaaDoor
set_option linter.unusedVariables false
set_option linter.unusedSimpArgs false
open Go.RowKit
set_option linter.unusedVariables false
namespace ZC
open Z
/-- what is told of one list of limbs: 2 too long, 3 a nought at its end, 0 right -/
def right (l : List Int) : Int := if 400 < l.length then 2 else if l.getLast? = some 0 then 3 else 0
def rights : List (List Int) → Int
  | [] => 0
  | l :: r => if right l = 0 then rights r else right l
/-- a slice of slices of limbs -/
def SS (w : World) (v : Value) (LL : List (List Int)) : Prop :=
  ∃ A c, v = .slice A LL.length c ∧ LL.length ≤ c ∧ ∀ j (h : j < LL.length), ∃ ad s, A = some ad ∧ w.cell? (ad.add j) = some s ∧ Sl .u32 w s LL[j]
theorem rights_drop {LL : List (List Int)} {k : Nat} (hk : k < LL.length) : rights (LL.drop k) = if right LL[k] = 0 then rights (LL.drop (k + 1)) else right LL[k] := by
  rw [List.drop_eq_getElem_cons hk]; rfl
theorem LimbsRight_c (v : Value) (LL : List (List Int)) (w : World) (hs : SS w v LL) (hn : LL.length ≤ 1000) (hl : ∀ l ∈ LL, l.length ≤ 9223372036854775807) :
    Calls Tryd.prog 14 #[v] w (RetQ w (.int .i64 (rights LL))) := by
  obtain ⟨A, c, rfl, hc, hcell⟩ := hs
  obtain ⟨n, en⟩ : ∃ n, n = LL.length := ⟨_, rfl⟩
  rw [← en] at hc hn ⊢
  have EN := Lib.hid en
  have HC := Lib.hid hcell
  have HL := Lib.hid hl
  clear en hcell hl
  go_enter Tryd.func14, Tryd.ntmps14
  go_wp2
  go_loop [7] (fun i => ∃ k : Nat, k ≤ n ∧ i = .int .i64 k ∧ Hid (rights (LL.drop k) = rights LL)) (fun i => n - (intOf i).toNat)
  case atStart => exact ⟨0, by omega, rfl, rfl⟩
  case round =>
    obtain ⟨k, hk, rfl, hr⟩ := hrel
    by_cases hkn : k < n
    · have hk' : k < LL.length := by rw [← EN.out]; exact hkn
      obtain ⟨ad, s, rfl, hs, hsl⟩ := HC.out k hk'
      have hlen := HL.out LL[k] (List.getElem_mem hk')
      have hd := rights_drop hk'
      rw [hr.out] at hd
      obtain ⟨l, el⟩ : ∃ l, l = LL[k] := ⟨_, rfl⟩
      rw [← el] at hsl hlen hd
      have HD := Lib.hid hd
      clear hd el
      obtain ⟨A', c', rfl, hc', _⟩ := hsl.open_
      obtain ⟨m, em⟩ : ∃ m, m = l.length := ⟨_, rfl⟩
      by_cases h4 : 400 < l.length
      · have hr2 : right l = 2 := by unfold right; rw [if_pos h4]
        have HD2 := HD.out
        rw [hr2] at HD2
        have HD3 := Lib.hid HD2
        rw [← em] at hs h4 hlen hc'
        clear hr2 HD2 HD em hsl
        go_wp2
        go_ret
        exact ⟨ret_int (by rw [HD3.out]; rfl), 0, rfl⟩
      · by_cases hne : l = []
        · have hr2 : right l = 0 := by subst hne; rfl
          have HD2 := HD.out
          rw [hr2] at HD2
          have HD3 := Lib.hid HD2
          have m0 : m = 0 := by rw [em, hne]; rfl
          rw [← em] at hs h4 hlen hc'
          subst m0
          clear hr2 HD2 HD em hsl hne
          go_wp2
          go_round
          case rel => exact ⟨k + 1, by omega, by simp, by have := HD3.out; simp at this; exact this.symm⟩
          case measure => simp [intOf]; omega
        · obtain ⟨ad', c'', e', _, hb', hcell'⟩ := hsl.last hne
          injection e' with e1 e2 e3
          subst e1
          subst e3
          clear e2
          obtain ⟨d, hd⟩ : ∃ d, d = l.getLast hne := ⟨_, rfl⟩
          rw [← hd] at hcell'
          have h1 : 1 ≤ l.length := List.length_pos_iff.2 hne
          rw [← em] at hs h4 hlen hc' h1 hcell'
          by_cases hd0 : d = 0
          · have hr2 : right l = 3 := by unfold right; rw [if_neg (by omega), if_pos (by rw [List.getLast?_eq_some_getLast hne, ← hd, hd0])]
            have HD2 := HD.out
            rw [hr2] at HD2
            have HD3 := Lib.hid HD2
            have e1 : (d == 0) = true := by simp [hd0]
            clear hr2 HD2 HD em hsl hd hd0
            go_wp2
            go_ret
            exact ⟨ret_int (by rw [HD3.out]; rfl), 0, rfl⟩
          · have hr2 : right l = 0 := by unfold right; rw [if_neg (by omega), if_neg (by rw [List.getLast?_eq_some_getLast hne, ← hd]; simpa using hd0)]
            have HD2 := HD.out
            rw [hr2] at HD2
            have HD3 := Lib.hid HD2
            have e1 : (d == 0) = false := by simp [hd0]
            clear hr2 HD2 HD em hsl hd hd0
            go_wp2
            go_round
            case rel => exact ⟨k + 1, by omega, by simp, by have := HD3.out; simp at this; exact this.symm⟩
            case measure => simp [intOf]; omega
    · have hz : rights (LL.drop k) = 0 := by rw [List.drop_of_length_le (by have := EN.out; omega)]; rfl
      rw [hr.out] at hz
      have HZ := Lib.hid hz
      clear hz hr
      go_wp2
      go_ret
      exact ⟨ret_int (by rw [HZ.out]), 0, rfl⟩
end ZC
end Go.Proofs.YtnpeokgjfnobmaaDoor

/-
  Words for memory: a list appended to a slice that has no room to spare, as one step of a region that draws its order.
-/
namespace Go.Proofs.YtnpeokgjfnobmaaDoor
set_option linter.unusedVariables false
set_option linter.unusedSimpArgs false
open Go.RowKit
set_option linter.unusedVariables false
theorem Sl.len_ {k : IntKind} {w : World} {A : Option Addr} {n c : Nat} {L : List Int} (h : Sl k w (.slice A n c) L) : n = L.length ∧ L.length ≤ c := by
  obtain ⟨A', c', e, hc, _⟩ := h
  injection e with e1 e2 e3
  subst e3
  exact ⟨e2, hc⟩
theorem Sl.news {k : IntKind} {w : World} {ad : Addr} {n c : Nat} {L : List Int} (h : Sl k w (.slice (some ad) n c) L) : ∀ j u, (L.map (Value.int k))[j]? = some u → w.cell? (ad.add j) = some u := by
  intro j u hu
  have hj : j < L.length := by
    rcases Nat.lt_or_ge j L.length with h | h
    · exact h
    · rw [List.getElem?_eq_none (by simpa using h)] at hu; cases hu
  obtain ⟨ad', c', e, _, _, hc⟩ := h.at_ j hj
  injection e with e1 e2 e3
  injection e1 with e1
  subst e1
  rw [hc]
  rw [List.getElem?_map, List.getElem?_eq_getElem hj] at hu
  rw [List.getD_eq_getElem?_getD, List.getElem?_eq_getElem hj]
  simpa using hu
theorem step_app_list {t e : TypeId} {k : IntKind} (el : Elem t e k) {ops : Array Oper} {o : Oper} {a : Act} {w : World} {K : Act → World → Prop} {Q : Exit → Act → World → Prop} {E : Prop}
    (hg : o.guard = none) (s x : Operand) (hop : o.op = Op.call { callee := Callee.builtin Builtin.append, args := #[s, x], argTypes := #[t, t] })
    (ad : Addr) (n c : Nat) (L : List Int) (hs : a.eval s = .slice (some ad) n c) (hS : Sl k w (.slice (some ad) n c) L)
    (Ax : Option Addr) (m cx : Nat) (M : List Int) (hx : a.eval x = .slice Ax m cx) (hM : Sl k w (.slice Ax m cx) M) (hfull : M ≠ [] → c < n + m) (hlen : L.length + M.length ≤ 1000000000000)
    (h : ∀ A' n' c' w', n' = L.length + M.length → Sl k w' (.slice A' n' c') (L ++ M) → Below w.heap.size w w' → (A' = some ad ∨ ∃ g, A' = some ⟨g, 0, none⟩ ∧ w.heap.size ≤ g) → K (a.put o.dst (.slice A' n' c')) w') :
    if Region.wanted o (yielded ops a.tmps) = true then Oper.wp Tryd.prog o a w K Q else E := by
  obtain ⟨i, hi, h0, h1, h2⟩ := el.info
  have hn := hS.len_
  have hm := hM.len_
  by_cases hM0 : M = []
  · subst hM0
    have hw : Region.wanted o (yielded ops a.tmps) = true := by simp [Region.wanted, hg]
    rw [if_pos hw]
    have hm0 : m = 0 := by simpa using hm.1
    subst hm0
    have hsrc : Src Tryd.prog i.size t (.slice Ax 0 cx) 0 [] w := by
      cases Ax with
      | none => exact Src.ofNil w el.ht cx
      | some adx => exact Src.ofSlice w el.ht adx 0 cx [] (by simp) (by intro j u hu; cases hu) (by intro u hu; cases hu)
    have hrun := run_append_nothing (P := Tryd.prog) w t t o.type e i el.ht hi (some ad) n c (by omega) _ hsrc
    unfold Oper.wp
    simp [execOp, hop, resolve, invoke, builtin, hs, hx, hrun, Result.andThen]
    exact h _ _ _ _ (by simpa using hn.1) (by simpa using hS) (Below.refl _ _) (.inl rfl)
  · obtain ⟨adx, rfl⟩ : ∃ adx, Ax = some adx := by
      obtain ⟨ad', c', e, _⟩ := hM.at_ 0 (List.length_pos_iff.2 hM0)
      injection e with e1
      exact ⟨_, e1⟩
    refine step_append_grows hg s x t hop e i (.int k 0) 1 i.bytes el.ht hi h0 h1 rfl rfl (by decide) (some ad) n c (L.map (Value.int k)) hs (fun h => by cases h) (by simp [hn.1]) ?_
      adx m cx (M.map (Value.int k)) hx (by simp [hm.1]) hM.news ?_ (hfull hM0) (by unfold maxLen; omega) ?_ ?_
    · intro b hb
      injection hb with hb
      subst hb
      exact hS.news
    · intro u hu
      obtain ⟨z, _, rfl⟩ := List.mem_map.1 hu
      rfl
    · have : (n + m) * i.bytes ≤ (n + m) * 8 := Nat.mul_le_mul_left _ h2
      omega
    · intro v' w' hown hgr
      have hown' : Own k e w' w.heap.size v' (L ++ M) := by
        unfold Own
        rw [List.map_append, List.length_append, ← hn.1, ← hm.1]
        exact hown
      obtain ⟨A', c', rfl⟩ := hown'.form
      refine h A' _ c' w' (by simp) hown'.sl ?_ ?_
      · exact (Below.refl w.heap.size w).grown hgr (Nat.le_refl _) (fun g hg => by cases hg)
      · rcases hown'.2 with ⟨he, h0⟩ | ⟨g, cap, cur, he, hg', _⟩
        · exfalso
          have := List.length_pos_iff.2 hM0
          have e0 : (L ++ M).length = 0 := h0
          rw [List.length_append] at e0
          omega
        · injection he with h1
          exact .inr ⟨g, h1, hg'⟩
theorem wp_app_list {t e : TypeId} {k : IntKind} (el : Elem t e k) {o : Oper} {a : Act} {w : World} {K : Act → World → Prop} {Q : Exit → Act → World → Prop}
    (hg : o.guard = none) (s x : Operand) (hop : o.op = Op.call { callee := Callee.builtin Builtin.append, args := #[s, x], argTypes := #[t, t] })
    (ad : Addr) (n c : Nat) (L : List Int) (hs : a.eval s = .slice (some ad) n c) (hS : Sl k w (.slice (some ad) n c) L)
    (Ax : Option Addr) (m cx : Nat) (M : List Int) (hx : a.eval x = .slice Ax m cx) (hM : Sl k w (.slice Ax m cx) M) (hfull : M ≠ [] → c < n + m) (hlen : L.length + M.length ≤ 1000000000000)
    (h : ∀ A' n' c' w', n' = L.length + M.length → Sl k w' (.slice A' n' c') (L ++ M) → Below w.heap.size w w' → (A' = some ad ∨ ∃ g, A' = some ⟨g, 0, none⟩ ∧ w.heap.size ≤ g) → K (a.put o.dst (.slice A' n' c')) w') :
    Oper.wp Tryd.prog o a w K Q := by
  have := step_app_list (ops := #[]) (E := True) (Q := Q) el hg s x hop ad n c L hs hS Ax m cx M hx hM hfull hlen h
  rwa [if_pos (by simp [Region.wanted, hg])] at this
end Go.Proofs.YtnpeokgjfnobmaaDoor

/-
  Plain mathematics of the long division by digits.
-/
namespace Go.Proofs.YtnpeokgjfnobmaaDoor.Z
set_option linter.unusedVariables false
set_option linter.unusedSimpArgs false
structure DivI (X : List Int) (B : Int) (n k : Nat) (Q : List Int) (R : Int) : Prop where
  len : Q.length = n
  dig : Dig Q
  sum : val (Q.drop k) * B + R = val (X.drop k)
  r0 : 0 ≤ R
  r1 : R < B
theorem Dig.rep (n : Nat) : Dig (List.replicate n 0) := by intro d hd; rw [(List.mem_replicate.1 hd).2]; omega
theorem DivI.start (X : List Int) (B : Int) (hB : 0 < B) : DivI X B X.length X.length (List.replicate X.length 0) 0 := by
  refine ⟨by simp, Dig.rep _, ?_, by omega, hB⟩
  rw [List.drop_of_length_le (by simp), List.drop_of_length_le (by simp)]; simp [val]
theorem val_drop {L : List Int} {k : Nat} (h : k < L.length) : val (L.drop k) = L.getD k 0 + 10000 * val (L.drop (k + 1)) := by
  rw [List.drop_eq_getElem_cons h, List.getD_eq_getElem?_getD, List.getElem?_eq_getElem h]; rfl
theorem DivI.digit {X : List Int} {B : Int} {n k : Nat} {Q : List Int} {R m : Int} (h : DivI X B n (k + 1) Q R) (hX : Dig X) (hm : m * B ≤ X.getD k 0 + 10000 * R) (h0 : 0 ≤ m) : m < 10000 := by
  have h1 := getD_dig hX k
  have h2 := h.r1
  by_cases h3 : m < 10000
  · exact h3
  · have h3 : 10000 ≤ m := by omega
    have h4 := Int.mul_le_mul_of_nonneg_right h3 (show 0 ≤ B by have := h.r0; omega)
    omega
theorem DivI.step {X : List Int} {B : Int} {n k : Nat} {Q : List Int} {R m : Int} (h : DivI X B n (k + 1) Q R) (hX : Dig X) (hn : n = X.length) (hk : k < n) (h0 : 0 ≤ m) (hm : m * B ≤ X.getD k 0 + 10000 * R) (hm1 : X.getD k 0 + 10000 * R < (m + 1) * B) :
    DivI X B n k (Q.set k m) (X.getD k 0 + 10000 * R - m * B) := by
  have hd := h.digit hX hm h0
  refine ⟨by simp [h.len], ?_, ?_, by omega, by grind⟩
  · intro d hd'
    rcases List.mem_or_eq_of_mem_set hd' with h1 | h1
    · exact h.dig d h1
    · subst h1; omega
  · rw [val_drop (L := X) (by omega), val_drop (L := Q.set k m) (by rw [List.length_set, h.len]; exact hk), getD_set (by rw [h.len]; exact hk), if_pos rfl, List.drop_set_of_lt (by omega)]
    have := h.sum
    grind
theorem DivI.done {X : List Int} {B : Int} {n : Nat} {Q : List Int} {R : Int} (h : DivI X B n 0 Q R) : val Q * B + R = val X := by simpa using h.sum
/-- the quotient and the remainder by Euclid, from those without signs -/
theorem euclid {a b q r : Int} (hb : b ≠ 0) (h : q * (b.natAbs : Int) + r = (a.natAbs : Int)) (h0 : 0 ≤ r) (h1 : r < (b.natAbs : Int)) :
    a / b = (if (decide (a < 0)) = (decide (b < 0)) then (if a < 0 ∧ 0 < r then q + 1 else q) else - (if a < 0 ∧ 0 < r then q + 1 else q)) ∧
    a % b = (if a < 0 ∧ 0 < r then (b.natAbs : Int) - r else r) := by
  rcases Int.lt_or_lt_of_ne hb with hb | hb
  · rw [Int.ediv_emod_unique' hb]
    rw [show ((b.natAbs : Nat) : Int) = -b by omega] at *
    by_cases ha : a < 0 <;> by_cases hr : 0 < r <;> simp only [ha, hb, hr, decide_true, decide_false, and_true, and_false, false_and, if_true, if_false, reduceCtorEq] <;> (refine ⟨?_, ?_, ?_⟩) <;> (try rw [show ((a.natAbs : Nat) : Int) = -a by omega] at h) <;> (try rw [show ((a.natAbs : Nat) : Int) = a by omega] at h) <;> grind
  · rw [Int.ediv_emod_unique hb]
    rw [show ((b.natAbs : Nat) : Int) = b by omega] at *
    have hb' : ¬ b < 0 := by omega
    by_cases ha : a < 0 <;> by_cases hr : 0 < r <;> simp only [ha, hb', hr, decide_true, decide_false, and_true, and_false, true_and, false_and, if_true, if_false, reduceCtorEq] <;> (refine ⟨?_, ?_, ?_⟩) <;> (try rw [show ((a.natAbs : Nat) : Int) = -a by omega] at h) <;> (try rw [show ((a.natAbs : Nat) : Int) = a by omega] at h) <;> grind
theorem euclid' {a b q r Bv : Int} (hb : b ≠ 0) (e : Bv = (b.natAbs : Int)) (h : q * Bv + r = (a.natAbs : Int)) (h0 : 0 ≤ r) (h1 : r < Bv) :
    a / b = (if (decide (a < 0)) = (decide (b < 0)) then (if a < 0 ∧ 0 < r then q + 1 else q) else - (if a < 0 ∧ 0 < r then q + 1 else q)) ∧
    a % b = (if a < 0 ∧ 0 < r then Bv - r else r) := by
  subst e
  exact euclid hb h h0 h1
section
variable {a b q r Bv : Int} (hb : b ≠ 0) (e : Bv = (b.natAbs : Int)) (h : q * Bv + r = (a.natAbs : Int)) (h0 : 0 ≤ r) (h1 : r < Bv)
include hb e h h0 h1
theorem eu_ff (hx : false = decide (a < 0)) (hy : false = decide (b < 0)) : a / b = q ∧ a % b = r := by
  have E := euclid' hb e h h0 h1
  have hx' := hx.symm
  simp only [decide_eq_true_eq, decide_eq_false_iff_not] at hx'
  rw [← hx, ← hy] at E
  rw [E.1, E.2]
  simp [hx']
theorem eu_ft (hx : false = decide (a < 0)) (hy : true = decide (b < 0)) : a / b = -q ∧ a % b = r := by
  have E := euclid' hb e h h0 h1
  have hx' := hx.symm
  simp only [decide_eq_true_eq, decide_eq_false_iff_not] at hx'
  rw [← hx, ← hy] at E
  rw [E.1, E.2]
  simp [hx']
theorem eu_tf1 (hx : true = decide (a < 0)) (hy : false = decide (b < 0)) (hp : 0 < r) : a / b = -(q + 1) ∧ a % b = Bv - r := by
  have E := euclid' hb e h h0 h1
  have hx' := hx.symm
  simp only [decide_eq_true_eq, decide_eq_false_iff_not] at hx'
  rw [← hx, ← hy] at E
  rw [E.1, E.2]
  simp [hp, hx']
theorem eu_tf0 (hx : true = decide (a < 0)) (hy : false = decide (b < 0)) (hp : ¬ 0 < r) : a / b = -q ∧ a % b = r := by
  have E := euclid' hb e h h0 h1
  have hx' := hx.symm
  simp only [decide_eq_true_eq, decide_eq_false_iff_not] at hx'
  rw [← hx, ← hy] at E
  rw [E.1, E.2]
  simp [hp, hx']
theorem eu_tt1 (hx : true = decide (a < 0)) (hy : true = decide (b < 0)) (hp : 0 < r) : a / b = q + 1 ∧ a % b = Bv - r := by
  have E := euclid' hb e h h0 h1
  have hx' := hx.symm
  simp only [decide_eq_true_eq, decide_eq_false_iff_not] at hx'
  rw [← hx, ← hy] at E
  rw [E.1, E.2]
  simp [hp, hx']
theorem eu_tt0 (hx : true = decide (a < 0)) (hy : true = decide (b < 0)) (hp : ¬ 0 < r) : a / b = q ∧ a % b = r := by
  have E := euclid' hb e h h0 h1
  have hx' := hx.symm
  simp only [decide_eq_true_eq, decide_eq_false_iff_not] at hx'
  rw [← hx, ← hy] at E
  rw [E.1, E.2]
  simp [hp, hx']
end
end Go.Proofs.YtnpeokgjfnobmaaDoor.Z

