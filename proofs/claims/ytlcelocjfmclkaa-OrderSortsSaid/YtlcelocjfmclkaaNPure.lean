/-
  Plain mathematics: lists of limbs: one limb set, so many limbs, sums, differences, multiples limb by limb.
-/
import Derived.Test.YtlcelocjfmclkaaLPure
import Derived.Test.YtlcelocjfmclkaaZMulP
namespace Go.Proofs.Ytlcelocjfmclkaa.L
open Z (Nz Tz cmpv)
theorem lv_set (L : List Int) (k : Nat) (z : Int) (h : k < L.length) : lv (L.set k z) = lv L + 4294967296 ^ k * (z - L.getD k 0) := by
  induction L generalizing k with
  | nil => simp at h
  | cons d r ih =>
    cases k with
    | zero => simp [lv]; omega
    | succ k =>
      simp only [List.set_cons_succ, lv, List.getD_cons_succ]
      rw [ih k (by simpa using h), Int.pow_succ]; grind
theorem lv_take_succ (L : List Int) (k : Nat) : lv (L.take (k + 1)) = lv (L.take k) + 4294967296 ^ k * L.getD k 0 := by
  induction L generalizing k with
  | nil => simp [lv]
  | cons d r ih =>
    cases k with
    | zero => simp [lv]
    | succ k =>
      simp only [List.take_succ_cons, lv, List.getD_cons_succ]
      rw [ih k, Int.pow_succ]; grind
theorem lv_rep (n : Nat) : lv (List.replicate n 0) = 0 := by
  induction n with
  | zero => rfl
  | succ n ih => simp [List.replicate_succ, lv, ih]
theorem Lim.set {L : List Int} (h : Lim L) (k : Nat) {z : Int} (h0 : 0 ≤ z) (h1 : z < 4294967296) : Lim (L.set k z) := by
  intro d hd
  rcases List.mem_or_eq_of_mem_set hd with hd | rfl
  · exact h d hd
  · exact ⟨h0, h1⟩
theorem Lim.at_ {L : List Int} (h : Lim L) (k : Nat) : 0 ≤ L.getD k 0 ∧ L.getD k 0 < 4294967296 := by
  rw [List.getD_eq_getElem?_getD]
  by_cases hk : k < L.length
  · rw [List.getElem?_eq_getElem hk]; exact h _ (List.getElem_mem hk)
  · rw [List.getElem?_eq_none (by omega)]; simp
theorem Lim.rep (n : Nat) : Lim (List.replicate n 0) := by
  intro d hd
  obtain rfl := List.eq_of_mem_replicate hd
  omega
theorem lv_zero {L : List Int} (h : ∀ d ∈ L, d = 0) : lv L = 0 := by
  induction L with
  | nil => rfl
  | cons d r ih => simp [lv, h d (by simp), ih fun x hx => h x (by simp [hx])]
theorem lv_tz {L : List Int} {k : Nat} (h : Tz L k) : lv (L.take k) = lv L := by
  have := lv_append (L.take k) (L.drop k)
  rw [List.take_append_drop, lv_zero h] at this
  omega
theorem lv_take_all {L : List Int} {k : Nat} (h : L.length ≤ k) : lv (L.take k) = lv L := by rw [List.take_of_length_le h]
theorem lv_drop {L : List Int} (k : Nat) (hk : k < L.length) : lv (L.drop k) = L.getD k 0 + 4294967296 * lv (L.drop (k + 1)) := by
  rw [List.drop_eq_getElem_cons hk]
  simp only [lv]
  rw [List.getD_eq_getElem?_getD, List.getElem?_eq_getElem hk]; rfl
theorem lv_split (L : List Int) (k : Nat) (hk : k < L.length) : lv L = lv (L.take k) + 4294967296 ^ k * (L.getD k 0 + 4294967296 * lv (L.drop (k + 1))) := by
  rw [lv_cut L k (by omega), lv_drop k hk]
theorem lv_at_lt {L M : List Int} {k : Nat} (hL : Lim L) (hM : Lim M) (hk : k < L.length) (hk' : k < M.length) (he : L.drop (k + 1) = M.drop (k + 1)) (h : L.getD k 0 < M.getD k 0) : lv L < lv M := by
  rw [lv_split L k hk, lv_split M k hk', he]
  have h1 := lv_lt (hL.take k)
  rw [List.length_take, Nat.min_eq_left (by omega)] at h1
  have h2 := lv_nonneg (hM.take k)
  have h3 : (4294967296 : Int) ^ k * (L.getD k 0 + 1) ≤ 4294967296 ^ k * M.getD k 0 := Int.mul_le_mul_of_nonneg_left (by omega) (Int.le_of_lt (pow_pos k))
  grind
theorem drop_same {L M : List Int} {k : Nat} (hk : k < L.length) (hk' : k < M.length) (he : L.drop (k + 1) = M.drop (k + 1)) (h : L.getD k 0 = M.getD k 0) : L.drop k = M.drop k := Z.drop_same hk hk' he h
theorem getD_set {L : List Int} {k : Nat} (h : k < L.length) (j : Nat) (z : Int) : (L.set k z).getD j 0 = if j = k then z else L.getD j 0 := Z.getD_set h j z
theorem lim_end {L : List Int} {k : Nat} (hk : k ≤ L.length) (h : k = 0 ∨ L.getD (k - 1) 0 ≠ 0) : Nz (L.take k) := Z.Nz_take hk h
/-- adding under way: so many limbs of Y have been added to X, which reads M now; c is carried -/
structure AddI (X Y : List Int) (i : Nat) (M : List Int) (c : Int) : Prop where
  len : M.length = X.length
  lim : Lim M
  c0 : 0 ≤ c
  c1 : c ≤ 1
  sum : lv M + 4294967296 ^ i * c = lv X + lv (Y.take i)
theorem AddI.start {X : List Int} (Y : List Int) (h : Lim X) : AddI X Y 0 X 0 := ⟨rfl, h, by omega, by omega, by simp [lv]⟩
theorem AddI.step {X Y M : List Int} {i : Nat} {c z c' : Int} (h : AddI X Y i M c) (hi : i < X.length) (z0 : 0 ≤ z) (z1 : z < 4294967296) (g0 : 0 ≤ c') (g1 : c' ≤ 1)
    (e : z + 4294967296 * c' = M.getD i 0 + Y.getD i 0 + c) : AddI X Y (i + 1) (M.set i z) c' := by
  refine ⟨by simp [h.len], h.lim.set i z0 z1, g0, g1, ?_⟩
  rw [lv_set M i z (by rw [h.len]; exact hi), lv_take_succ, Int.pow_succ]
  have := h.sum
  have e2 : 4294967296 ^ i * (z + 4294967296 * c') = 4294967296 ^ i * (M.getD i 0 + Y.getD i 0 + c) := by rw [e]
  grind
theorem AddI.done {X Y M : List Int} {i : Nat} {c : Int} (h : AddI X Y i M c) (hy : Y.length ≤ i) (hx : i = X.length ∨ c = 0) : lv M + 4294967296 ^ X.length * c = lv X + lv Y := by
  have := h.sum
  rw [lv_take_all hy] at this
  rcases hx with rfl | rfl
  · exact this
  · simpa using this
/-- taking away under way -/
structure SubI (X Y : List Int) (i : Nat) (M : List Int) (c : Int) : Prop where
  len : M.length = X.length
  lim : Lim M
  c0 : 0 ≤ c
  c1 : c ≤ 1
  sum : lv M - 4294967296 ^ i * c = lv X - lv (Y.take i)
theorem SubI.start {X : List Int} (Y : List Int) (h : Lim X) : SubI X Y 0 X 0 := ⟨rfl, h, by omega, by omega, by simp [lv]⟩
theorem SubI.step {X Y M : List Int} {i : Nat} {c z c' : Int} (h : SubI X Y i M c) (hi : i < X.length) (z0 : 0 ≤ z) (z1 : z < 4294967296) (g0 : 0 ≤ c') (g1 : c' ≤ 1)
    (e : z - 4294967296 * c' = M.getD i 0 - Y.getD i 0 - c) : SubI X Y (i + 1) (M.set i z) c' := by
  refine ⟨by simp [h.len], h.lim.set i z0 z1, g0, g1, ?_⟩
  rw [lv_set M i z (by rw [h.len]; exact hi), lv_take_succ, Int.pow_succ]
  have := h.sum
  have e2 : 4294967296 ^ i * (z - 4294967296 * c') = 4294967296 ^ i * (M.getD i 0 - Y.getD i 0 - c) := by rw [e]
  grind
theorem SubI.done {X Y M : List Int} {i : Nat} {c : Int} (h : SubI X Y i M c) (_hX : Lim X) (hy : Y.length ≤ i) (hx : i = X.length ∨ c = 0) (hle : lv Y ≤ lv X) : lv M = lv X - lv Y := by
  have hs := h.sum
  rw [lv_take_all hy] at hs
  rcases hx with rfl | rfl
  · have := lv_lt h.lim
    rw [h.len] at this
    have c0 := h.c0
    have c1 := h.c1
    rcases (by omega : c = 0 ∨ c = 1) with rfl | rfl
    · simpa using hs
    · rw [Int.mul_one] at hs; omega
  · simpa using hs
/-- a multiple added, or taken away, under way -/
structure TimI (s : Int) (X Y : List Int) (n : Int) (i : Nat) (M : List Int) (c : Int) : Prop where
  len : M.length = X.length
  lim : Lim M
  c0 : 0 ≤ c
  c1 : c ≤ 4294967296
  rest : ∀ j, i ≤ j → M.getD j 0 = X.getD j 0
  sum : lv M + s * (4294967296 ^ i * c) = lv X + s * (n * lv (Y.take i))
theorem TimI.start {X : List Int} (s : Int) (Y : List Int) (n : Int) (h : Lim X) : TimI s X Y n 0 X 0 := ⟨rfl, h, by omega, by omega, fun _ _ => rfl, by simp [lv]⟩
theorem TimI.step {s n : Int} {X Y M : List Int} {i : Nat} {c z c' : Int} (h : TimI s X Y n i M c) (hi : i < X.length) (z0 : 0 ≤ z) (z1 : z < 4294967296) (g0 : 0 ≤ c') (g1 : c' ≤ 4294967296)
    (e : z + s * (4294967296 * c') = M.getD i 0 + s * (Y.getD i 0 * n) + s * c) : TimI s X Y n (i + 1) (M.set i z) c' := by
  refine ⟨by simp [h.len], h.lim.set i z0 z1, g0, g1, fun j hj => ?_, ?_⟩
  · rw [getD_set (by rw [h.len]; exact hi), if_neg (by omega)]; exact h.rest j (by omega)
  · rw [lv_set M i z (by rw [h.len]; exact hi), lv_take_succ, Int.pow_succ]
    have := h.sum
    have e2 : 4294967296 ^ i * (z + s * (4294967296 * c')) = 4294967296 ^ i * (M.getD i 0 + s * (Y.getD i 0 * n) + s * c) := by rw [e]
    grind
theorem TimI.done {s n : Int} {X Y M : List Int} {i : Nat} {c : Int} (h : TimI s X Y n i M c) (hy : Y.length ≤ i) : lv M + s * (4294967296 ^ i * c) = lv X + s * (n * lv Y) := by
  have := h.sum
  rwa [lv_take_all hy] at this
end Go.Proofs.Ytlcelocjfmclkaa.L
