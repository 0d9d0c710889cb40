/-
  Plain mathematics of the product by rows of digits, and of the carry.
-/
import Derived.Test.YtlcelocjfmclkaaZPure
namespace Go.Proofs.Ytlcelocjfmclkaa.Z
theorem getD_set {L : List Int} {k : Nat} (h : k < L.length) (j : Nat) (z : Int) : (L.set k z).getD j 0 = if j = k then z else L.getD j 0 := by
  simp only [List.getD_eq_getElem?_getD, List.getElem?_set]
  by_cases e : k = j
  · subst e; simp [h]
  · simp [e, Ne.symm e]
theorem val_set (L : List Int) (k : Nat) (z : Int) (h : k < L.length) : val (L.set k z) = val L + 10000 ^ k * (z - L.getD k 0) := by
  induction L generalizing k with
  | nil => simp at h
  | cons d r ih =>
    cases k with
    | zero => simp [val]; omega
    | succ k =>
      have := ih k (by simpa using h)
      simp only [List.set_cons_succ, val, this, List.getD_cons_succ, Int.pow_succ]
      grind
theorem val_rep (n : Nat) : val (List.replicate n 0) = 0 := by
  induction n with
  | zero => rfl
  | succ n ih => simp [List.replicate_succ, val, ih]
theorem getD_rep (n k : Nat) : (List.replicate n (0 : Int)).getD k 0 = 0 := by
  simp [List.getD_eq_getElem?_getD, List.getElem?_replicate]; split <;> rfl
theorem val_ge_at {L : List Int} (h : ∀ k, 0 ≤ L.getD k 0) (k : Nat) : 10000 ^ k * L.getD k 0 ≤ val L := by
  induction L generalizing k with
  | nil => simp [val]
  | cons d r ih =>
    have h0 := h 0
    have hr : ∀ k, 0 ≤ r.getD k 0 := fun k => by simpa using h (k + 1)
    simp at h0
    cases k with
    | zero =>
      have := ih hr 0
      have h1 := hr 0
      simp at this h1
      simp [val]; omega
    | succ k =>
      have := ih hr k
      simp only [val, List.getD_cons_succ, Int.pow_succ]
      have e : (10000 : Int) ^ k * 10000 * r.getD k 0 = 10000 * (10000 ^ k * r.getD k 0) := by grind
      omega
/-- after i rows, and j places of the next one -/
structure MulI (X Y : List Int) (N i j : Nat) (x : Int) (L : List Int) : Prop where
  len : L.length = N
  lo : ∀ k, 0 ≤ L.getD k 0
  hi : ∀ k, L.getD k 0 ≤ ((i : Int) + 1) * 100000000
  hj : ∀ k, i + j ≤ k → L.getD k 0 ≤ (i : Int) * 100000000
  sum : val L = val (X.take i) * val Y + 10000 ^ i * x * val (Y.take j)
theorem MulI.start (X Y : List Int) (N : Nat) : MulI X Y N 0 0 (X.getD 0 0) (List.replicate N 0) :=
  ⟨by simp, fun k => by rw [getD_rep]; omega, fun k => by rw [getD_rep]; omega, fun k _ => by rw [getD_rep]; omega, by simp [val_rep, val]⟩
theorem MulI.step {X Y : List Int} {N i j : Nat} {x y : Int} {L : List Int} (h : MulI X Y N i j x L) (hx : 0 ≤ x ∧ x < 10000) (hy : 0 ≤ y ∧ y < 10000) (ey : Y.getD j 0 = y) (hN : i + j < N) :
    MulI X Y N i (j + 1) x (L.set (i + j) (L.getD (i + j) 0 + x * y)) := by
  have hl : i + j < L.length := by rw [h.len]; exact hN
  have hxy : 0 ≤ x * y := Int.mul_nonneg hx.1 hy.1
  have hxy2 : x * y ≤ 9999 * 9999 := Int.mul_le_mul (by omega) (by omega) hy.1 (by omega)
  have hb := h.hj (i + j) (Nat.le_refl _)
  refine ⟨by simp [h.len], ?_, ?_, ?_, ?_⟩
  · intro k; rw [getD_set hl]; split
    · have := h.lo (i + j); omega
    · exact h.lo k
  · intro k; rw [getD_set hl]; split
    · omega
    · exact h.hi k
  · intro k hk; rw [getD_set hl, if_neg (by omega)]; exact h.hj k (by omega)
  · rw [val_set _ _ _ hl, h.sum, val_take_succ, ey, Int.pow_add]; grind
theorem MulI.next {X Y : List Int} {N i j : Nat} {x : Int} {L : List Int} (h : MulI X Y N i j x L) (ex : X.getD i 0 = x) (hj : Y.length ≤ j) (x' : Int) : MulI X Y N (i + 1) 0 x' L := by
  refine ⟨h.len, h.lo, fun k => ?_, fun k _ => ?_, ?_⟩
  · have := h.hi k; omega
  · have := h.hi k; omega
  · rw [h.sum, val_take_succ, ex, List.take_of_length_le hj]; simp [val]; grind
/-- the carry so far -/
structure CarI (P : Int) (N k : Nat) (L : List Int) : Prop where
  len : L.length = N
  sum : val L = P
  lo : ∀ j, 0 ≤ L.getD j 0
  done : ∀ j, j < k → L.getD j 0 < 10000
  hi : ∀ j, L.getD j 0 ≤ 200000000000000
  rest : ∀ j, k < j → L.getD j 0 ≤ 100000200000000
theorem MulI.carry {X Y : List Int} {N i : Nat} {x : Int} {L : List Int} (h : MulI X Y N i 0 x L) (hi : X.length ≤ i) (hb : i ≤ 1000000) : CarI (val X * val Y) N 0 L := by
  refine ⟨h.len, ?_, h.lo, by omega, fun j => ?_, fun j _ => ?_⟩
  · rw [h.sum, List.take_of_length_le hi]; simp [val]
  · have := h.hi j; omega
  · have := h.hi j; omega
theorem CarI.last {P : Int} {N k : Nat} {L : List Int} (h : CarI P N k L) (hk : k < N) (hP : P < 10000 ^ (N - 1)) (hb : 10000 ≤ L.getD k 0) : k + 1 < N := by
  rcases Nat.lt_or_ge (k + 1) N with h1 | h1
  · exact h1
  · exfalso
    have h2 := val_ge_at h.lo k
    rw [h.sum] at h2
    obtain rfl : k = N - 1 := by omega
    have hp : (0 : Int) < 10000 ^ (N - 1) := Int.pow_pos (by decide)
    have := Int.mul_le_mul_of_nonneg_left hb (show (0 : Int) ≤ 10000 ^ (N - 1) by omega)
    omega
theorem CarI.small {P : Int} {N k : Nat} {L : List Int} (h : CarI P N k L) (hb : L.getD k 0 < 10000) : CarI P N (k + 1) L :=
  ⟨h.len, h.sum, h.lo, fun j hj => by by_cases e : j = k; (subst e; exact hb); exact h.done j (by omega), h.hi, fun j hj => h.rest j (by omega)⟩
theorem CarI.step {P : Int} {N k : Nat} {L : List Int} (h : CarI P N k L) (hk : k + 1 < N) :
    CarI P N (k + 1) ((L.set (k + 1) (L.getD (k + 1) 0 + L.getD k 0 / 10000)).set k (L.getD k 0 % 10000)) := by
  have h1 : k + 1 < L.length := by rw [h.len]; exact hk
  have h2 : k < (L.set (k + 1) (L.getD (k + 1) 0 + L.getD k 0 / 10000)).length := by simp; omega
  have a0 := h.lo k
  have a1 := h.lo (k + 1)
  have a2 := h.hi k
  have a3 := h.rest (k + 1) (by omega)
  have gd : ∀ j, ((L.set (k + 1) (L.getD (k + 1) 0 + L.getD k 0 / 10000)).set k (L.getD k 0 % 10000)).getD j 0 = if j = k then L.getD k 0 % 10000 else if j = k + 1 then L.getD (k + 1) 0 + L.getD k 0 / 10000 else L.getD j 0 := by
    intro j; rw [getD_set h2, getD_set h1]
  refine ⟨by simp [h.len], ?_, ?_, ?_, ?_, ?_⟩
  · rw [val_set _ _ _ h2, val_set _ _ _ h1, h.sum, getD_set h1, if_neg (by omega), Int.pow_succ]
    have e := Int.mul_ediv_add_emod (L.getD k 0) 10000
    generalize L.getD k 0 / 10000 = q at *
    generalize L.getD k 0 % 10000 = r at *
    grind
  · intro j; rw [gd]; have := h.lo j; split; omega; split <;> omega
  · intro j hj; rw [gd]; have := h.done j; split; omega; split <;> omega
  · intro j; rw [gd]; have := h.hi j; split; omega; split <;> omega
  · intro j hj; rw [gd]; have := h.rest j; split; omega; split <;> omega
theorem CarI.dig {P : Int} {N : Nat} {L : List Int} (h : CarI P N N L) : Dig L := by
  intro d hd
  obtain ⟨j, hj, rfl⟩ := List.getElem_of_mem hd
  have h1 := h.lo j
  have h2 := h.done j (by rw [← h.len]; exact hj)
  rw [List.getD_eq_getElem?_getD, List.getElem?_eq_getElem hj] at h1 h2
  exact ⟨h1, h2⟩
theorem mul_lt_pow {X Y : List Int} {n m : Nat} (hX : Dig X) (hY : Dig Y) (hn : X.length = n) (hm : Y.length = m) : val X * val Y < 10000 ^ (n + m + 1 - 1) := by
  have h1 := val_lt hX
  have h2 := val_lt hY
  rw [hn] at h1
  rw [hm] at h2
  have h3 := val_nonneg hX
  have h4 := val_nonneg hY
  rw [Nat.add_sub_cancel, Int.pow_add]
  have hp : (0 : Int) < 10000 ^ m := Int.pow_pos (by decide)
  rcases Int.lt_or_eq_of_le h4 with h5 | h5
  · have a := Int.mul_lt_mul_of_pos_right h1 h5
    have b := Int.mul_le_mul_of_nonneg_left (Int.le_of_lt h2) (show (0 : Int) ≤ 10000 ^ n from Int.le_of_lt (Int.pow_pos (by decide)))
    omega
  · rw [← h5]; simp; exact Int.mul_pos (Int.pow_pos (by decide)) hp
end Go.Proofs.Ytlcelocjfmclkaa.Z
