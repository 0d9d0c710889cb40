/-
  Plain mathematics: lists of digits by ten thousand, lowest first; their value; noughts at the end.
-/
namespace Go.Proofs.Ytlcelocjfmclkaa.Z
def val : List Int → Int
  | [] => 0
  | d :: r => d + 10000 * val r
def Dig (L : List Int) : Prop := ∀ d ∈ L, 0 ≤ d ∧ d < 10000
def sg (b : Bool) (x : Int) : Int := if b then -x else x
/-- no nought at the end -/
def Nz (L : List Int) : Prop := ∀ h : L ≠ [], L.getLast h ≠ 0
@[irreducible] def big (n : Nat) : Nat := 10000 ^ n
theorem val_append (a b : List Int) : val (a ++ b) = val a + 10000 ^ a.length * val b := by
  induction a with
  | nil => simp [val]
  | cons d r ih => simp only [List.cons_append, val, ih, List.length_cons, Int.pow_succ]; grind
theorem val_nonneg {L : List Int} (h : Dig L) : 0 ≤ val L := by
  induction L with
  | nil => simp [val]
  | cons d r ih =>
    have h1 := h d (by simp)
    have h2 := ih fun x hx => h x (by simp [hx])
    simp only [val]; omega
theorem Dig.take {L : List Int} (h : Dig L) (n : Nat) : Dig (L.take n) := fun d hd => h d (List.mem_of_mem_take hd)
/-- from place k on there are only noughts -/
def Tz (L : List Int) (k : Nat) : Prop := ∀ d ∈ L.drop k, d = 0
theorem Tz_all (L : List Int) : Tz L L.length := by intro d hd; simp at hd
theorem Tz_pred (L : List Int) (k : Nat) (h0 : 0 < k) (hk : k ≤ L.length) (hz : L.getD (k - 1) 0 = 0) (h : Tz L k) : Tz L (k - 1) := by
  intro d hd
  rw [List.drop_eq_getElem_cons (by omega), show k - 1 + 1 = k by omega] at hd
  rcases List.mem_cons.1 hd with rfl | hd
  · rw [List.getD_eq_getElem?_getD, List.getElem?_eq_getElem (by omega)] at hz; exact hz
  · exact h d hd
theorem val_zero {L : List Int} (h : ∀ d ∈ L, d = 0) : val L = 0 := by
  induction L with
  | nil => rfl
  | cons d r ih => simp only [val]; rw [h d (by simp), ih fun x hx => h x (by simp [hx])]; rfl
theorem val_take {L : List Int} {k : Nat} (h : Tz L k) : val (L.take k) = val L := by
  conv => rhs; rw [← List.take_append_drop k L, val_append, val_zero h]
  simp
theorem val_pos {L : List Int} (h : Dig L) (hn : Nz L) (hne : L ≠ []) : 0 < val L := by
  obtain ⟨r, d, rfl⟩ := List.eq_nil_or_concat L |>.resolve_left hne
  have hd := h d (by simp)
  have hd0 : d ≠ 0 := by have := hn hne; simpa using this
  have hr := val_nonneg (L := r) fun x hx => h x (by simp [hx])
  simp only [List.concat_eq_append]
  rw [val_append]
  have hp : (0 : Int) < 10000 ^ r.length := Int.pow_pos (by decide)
  have hd2 : val [d] = d := by simp [val]
  rw [hd2]
  have : 0 < 10000 ^ r.length * d := Int.mul_pos hp (by omega)
  omega
theorem Nz_take {L : List Int} {k : Nat} (hk : k ≤ L.length) (h : k = 0 ∨ L.getD (k - 1) 0 ≠ 0) : Nz (L.take k) := by
  intro hne
  have hk0 : 0 < k := by rcases Nat.eq_zero_or_pos k with rfl | h; simp at hne; exact h
  have h := h.resolve_left (by omega)
  rw [List.getLast_eq_getElem, List.getElem_take]
  rw [List.getD_eq_getElem?_getD, List.getElem?_eq_getElem (by omega)] at h
  simp only [List.length_take, Nat.min_eq_left hk]
  exact h
theorem sg_lt (neg : Bool) (x : Int) (h : 0 < x) : decide (sg neg x < 0) = neg := by cases neg <;> simp [sg] <;> omega
theorem sg_abs (neg : Bool) (x : Int) (h : 0 ≤ x) : ((sg neg x).natAbs : Int) = x := by cases neg <;> simp [sg] <;> omega
theorem val_lt {L : List Int} (h : Dig L) : val L < 10000 ^ L.length := by
  induction L with
  | nil => simp [val]
  | cons d r ih =>
    have h1 := h d (by simp)
    have h2 := ih fun x hx => h x (by simp [hx])
    simp only [val, List.length_cons, Int.pow_succ]; omega
theorem val_ge {L : List Int} (h : Dig L) (hn : Nz L) (hne : L ≠ []) : 10000 ^ (L.length - 1) ≤ val L := by
  obtain ⟨r, d, rfl⟩ := List.eq_nil_or_concat L |>.resolve_left hne
  have hd := h d (by simp)
  have hd0 : d ≠ 0 := by have := hn hne; simpa using this
  have hr := val_nonneg (L := r) fun x hx => h x (by simp [hx])
  simp only [List.concat_eq_append]
  rw [val_append]
  have hp : (0 : Int) < 10000 ^ r.length := Int.pow_pos (by decide)
  have hd2 : val [d] = d := by simp [val]
  rw [hd2]
  have : (10000 : Int) ^ r.length * 1 ≤ 10000 ^ r.length * d := Int.mul_le_mul_of_nonneg_left (by omega) (by omega)
  simp; omega
theorem pow_mono {a b : Nat} (h : a ≤ b) : (10000 : Int) ^ a ≤ 10000 ^ b := by
  obtain ⟨c, rfl⟩ := Nat.exists_eq_add_of_le h
  rw [Int.pow_add]
  have h1 : (0 : Int) < 10000 ^ a := Int.pow_pos (by decide)
  have h2 : (0 : Int) < 10000 ^ c := Int.pow_pos (by decide)
  have := Int.mul_le_mul_of_nonneg_left (show (1 : Int) ≤ 10000 ^ c by omega) (show (0 : Int) ≤ 10000 ^ a by omega)
  omega
def cmpv (x y : Int) : Int := if x < y then -1 else if y < x then 1 else 0
theorem val_len {L M : List Int} (hL : Dig L) (hM : Dig M) (nM : Nz M) (h : L.length < M.length) : val L < val M := by
  have h1 := val_lt hL
  have h2 := val_ge hM nM (by rintro rfl; simp at h)
  have h3 := pow_mono (show L.length ≤ M.length - 1 by omega)
  omega
theorem cmpv_lt {x y : Int} (h : x < y) : cmpv x y = -1 := by simp [cmpv, h]
theorem cmpv_gt {x y : Int} (h : y < x) : cmpv x y = 1 := by unfold cmpv; rw [if_neg (by omega), if_pos h]
theorem cmpv_eq {x y : Int} (h : x = y) : cmpv x y = 0 := by unfold cmpv; rw [if_neg (by omega), if_neg (by omega)]
theorem cmpv_ge0 {x y : Int} (h : ¬ x < y) : 0 ≤ cmpv x y := by unfold cmpv; rw [if_neg h]; split <;> omega
theorem cmpv_bd (x y : Int) : -1 ≤ cmpv x y ∧ cmpv x y ≤ 1 := by unfold cmpv; split <;> (try split) <;> omega
theorem val_split (L : List Int) (k : Nat) (hk : k < L.length) : val L = val (L.take k) + 10000 ^ k * (L.getD k 0 + 10000 * val (L.drop (k + 1))) := by
  conv => lhs; rw [← List.take_append_drop k L, val_append]
  rw [List.length_take, Nat.min_eq_left (by omega), List.drop_eq_getElem_cons hk]
  simp only [val]
  rw [List.getD_eq_getElem?_getD, List.getElem?_eq_getElem hk]; rfl
/-- alike above place k, less at k -/
theorem val_at_lt {L M : List Int} {k : Nat} (hL : Dig L) (hM : Dig M) (hk : k < L.length) (hk' : k < M.length) (he : L.drop (k + 1) = M.drop (k + 1)) (h : L.getD k 0 < M.getD k 0) : val L < val M := by
  rw [val_split L k hk, val_split M k hk', he]
  have h1 := val_lt (hL.take k)
  have h2 := val_nonneg (hM.take k)
  rw [List.length_take, Nat.min_eq_left (by omega)] at h1
  have hp : (0 : Int) < 10000 ^ k := Int.pow_pos (by decide)
  have h3 := Int.mul_le_mul_of_nonneg_left (show L.getD k 0 + 10000 * val (M.drop (k + 1)) + 1 ≤ M.getD k 0 + 10000 * val (M.drop (k + 1)) by omega) (show (0 : Int) ≤ 10000 ^ k by omega)
  rw [Int.mul_add (10000 ^ k) _ 1] at h3
  omega
theorem drop_same {L M : List Int} {k : Nat} (hk : k < L.length) (hk' : k < M.length) (he : L.drop (k + 1) = M.drop (k + 1)) (h : L.getD k 0 = M.getD k 0) : L.drop k = M.drop k := by
  rw [List.drop_eq_getElem_cons hk, List.drop_eq_getElem_cons hk', he]
  rw [List.getD_eq_getElem?_getD, List.getElem?_eq_getElem hk, List.getD_eq_getElem?_getD, List.getElem?_eq_getElem hk'] at h
  simp at h
  rw [h]
theorem big_pos (n : Nat) : (0 : Int).natAbs < big n := by unfold big; exact Nat.pow_pos (by decide)
theorem big_cast (n : Nat) : ((big n : Nat) : Int) = 10000 ^ n := by unfold big; simp
theorem len_of {L : List Int} {a N : Nat} (h : Dig L) (hn : Nz L) (hv : val L = a) (ha : a < big N) : L.length ≤ N := by
  rcases Nat.lt_or_ge N L.length with hl | hl
  · exfalso
    have h1 := val_ge h hn (by rintro rfl; simp at hl)
    have h2 := pow_mono (show N ≤ L.length - 1 by omega)
    have h3 := big_cast N
    omega
  · exact hl
theorem cmpv_neg (x y : Int) : cmpv (-x) (-y) = - cmpv x y := by unfold cmpv; repeat (first | omega | split)
theorem len0_of {L : List Int} (h : Dig L) (hn : Nz L) (hv : val L = 0) : L = [] := by
  rcases List.eq_nil_or_concat L with h0 | h0
  · exact h0
  · have := val_pos h hn (by obtain ⟨r, d, rfl⟩ := h0; simp); omega
/-- the digits so far of a number, and what is left of it -/
structure NI (n m : Int) (L : List Int) : Prop where
  dig : Dig L
  sum : (n.natAbs : Int) = val L + 10000 ^ L.length * (m.natAbs : Int)
  s0 : 0 ≤ n → 0 ≤ m
  s1 : n < 0 → m ≤ 0
  len : L.length ≤ 5
  lim : (m.natAbs : Int) < 10000 ^ (5 - L.length)
  nz : m = 0 → Nz L
theorem NI.start (n : Int) (h0 : -9223372036854775808 ≤ n) (h1 : n ≤ 9223372036854775807) : NI n n [] := by
  refine ⟨(by intro d hd; cases hd), by simp [val], fun h => h, fun h => by omega, by simp, by simp; omega, fun _ h => absurd rfl h⟩
def dgt (m : Int) : Int := if m.tmod 10000 < 0 then -(m.tmod 10000) else m.tmod 10000
theorem tmod_bd (m : Int) : -10000 < m.tmod 10000 ∧ m.tmod 10000 < 10000 := by
  rcases Int.le_total 0 m with h | h
  · rw [Int.tmod_eq_emod_of_nonneg h]; omega
  · obtain ⟨k, rfl⟩ : ∃ k, m = -k := ⟨-m, by omega⟩
    rw [Int.neg_tmod, Int.tmod_eq_emod_of_nonneg (by omega)]; omega
theorem dgt_eq (m : Int) : dgt m = (m.natAbs : Int) % 10000 := by
  unfold dgt
  rcases Int.le_total 0 m with h | h
  · rw [Int.tmod_eq_emod_of_nonneg h]; split <;> omega
  · obtain ⟨k, rfl⟩ : ∃ k, m = -k := ⟨-m, by omega⟩
    rw [Int.neg_tmod, Int.tmod_eq_emod_of_nonneg (by omega)]; split <;> omega
theorem tdiv_abs (m : Int) : ((m.tdiv 10000).natAbs : Int) = (m.natAbs : Int) / 10000 := by
  rcases Int.le_total 0 m with h | h
  · rw [Int.tdiv_eq_ediv_of_nonneg h]; omega
  · obtain ⟨k, rfl⟩ : ∃ k, m = -k := ⟨-m, by omega⟩
    rw [Int.neg_tdiv, Int.tdiv_eq_ediv_of_nonneg (by omega)]; omega
theorem tdiv_sign (m : Int) : (0 ≤ m → 0 ≤ m.tdiv 10000) ∧ (m ≤ 0 → m.tdiv 10000 ≤ 0) := by
  constructor
  · intro h; rw [Int.tdiv_eq_ediv_of_nonneg h]; omega
  · intro h
    obtain ⟨k, rfl⟩ : ∃ k, m = -k := ⟨-m, by omega⟩
    rw [Int.neg_tdiv, Int.tdiv_eq_ediv_of_nonneg (by omega)]; omega
theorem NI.step {n m : Int} {L : List Int} (h : NI n m L) (hm : m ≠ 0) : NI n (m.tdiv 10000) (L ++ [dgt m]) := by
  have hd := dgt_eq m
  have ht := tdiv_abs m
  have hs := tdiv_sign m
  have hl : L.length < 5 := by
    rcases Nat.lt_or_ge L.length 5 with h5 | h5
    · exact h5
    · have := h.lim; rw [show 5 - L.length = 0 by omega] at this; simp at this; omega
  refine ⟨?_, ?_, fun hn => hs.1 (h.s0 hn), fun hn => hs.2 (h.s1 hn), by simp; omega, ?_, ?_⟩
  · intro d hd'
    rcases List.mem_append.1 hd' with hd' | hd'
    · exact h.dig d hd'
    · simp at hd'; subst hd'; omega
  · rw [h.sum, val_append, ht, hd]
    simp only [List.length_append, List.length_cons, List.length_nil, val, Int.pow_succ, Int.mul_zero, Int.add_zero]
    have : (m.natAbs : Int) = (m.natAbs : Int) % 10000 + 10000 * ((m.natAbs : Int) / 10000) := by omega
    generalize (m.natAbs : Int) % 10000 = a at *
    generalize (m.natAbs : Int) / 10000 = b at *
    rw [this]; grind
  · have h1 := h.lim
    rw [show 5 - L.length = (5 - (L ++ [dgt m]).length) + 1 by simp; omega, Int.pow_succ] at h1
    rw [ht]; omega
  · intro h0 hne
    have h2 : (m.natAbs : Int) / 10000 = 0 := by rw [← ht, h0]; rfl
    simp
    rw [hd]; omega
theorem NI.bd {n m : Int} {L : List Int} (h : NI n m L) (h0 : -9223372036854775808 ≤ n) (h1 : n ≤ 9223372036854775807) : -9223372036854775808 ≤ m ∧ m ≤ 9223372036854775807 := by
  have a := h.sum
  have b := h.s0
  have c := h.s1
  have d := val_nonneg h.dig
  have e : (m.natAbs : Int) ≤ 10000 ^ L.length * (m.natAbs : Int) := by
    have hp : (0 : Int) < 10000 ^ L.length := Int.pow_pos (by decide)
    have := Int.mul_le_mul_of_nonneg_right (show (1 : Int) ≤ 10000 ^ L.length by omega) (show (0 : Int) ≤ (m.natAbs : Int) by omega)
    omega
  omega
theorem NI.done {n : Int} {L : List Int} (h : NI n 0 L) : Dig L ∧ Nz L ∧ val L = n.natAbs := ⟨h.dig, h.nz rfl, by have := h.sum; simp at this; omega⟩
theorem getD_dig {L : List Int} (h : Dig L) (k : Nat) : 0 ≤ L.getD k 0 ∧ L.getD k 0 < 10000 := by
  rw [List.getD_eq_getElem?_getD]
  rcases Nat.lt_or_ge k L.length with hk | hk
  · rw [List.getElem?_eq_getElem hk]; exact h _ (List.getElem_mem hk)
  · rw [List.getElem?_eq_none hk]; simp
theorem getD_out {L : List Int} {k : Nat} (h : L.length ≤ k) : L.getD k 0 = 0 := by rw [List.getD_eq_getElem?_getD, List.getElem?_eq_none h]; rfl
theorem val_take_succ (L : List Int) (k : Nat) : val (L.take (k + 1)) = val (L.take k) + 10000 ^ k * L.getD k 0 := by
  rcases Nat.lt_or_ge k L.length with hk | hk
  · rw [List.take_succ_eq_append_getElem hk, val_append, List.length_take, Nat.min_eq_left (by omega), List.getD_eq_getElem?_getD, List.getElem?_eq_getElem hk]
    simp [val]
  · rw [getD_out hk, List.take_of_length_le hk, List.take_of_length_le (by omega)]; simp
/-- adding (or taking away) digit by digit: after k rounds -/
structure AddI (s : Bool) (X Y : List Int) (k : Nat) (c : Int) (L : List Int) : Prop where
  dig : Dig L
  len : L.length = k
  sum : val L + 10000 ^ k * c = val (X.take k) + (if s then val (Y.take k) else - val (Y.take k))
  c0 : -1 ≤ c
  c1 : c ≤ 1
  cs : s = true → 0 ≤ c
  cd : s = false → c ≤ 0
theorem AddI.start (s : Bool) (X Y : List Int) : AddI s X Y 0 0 [] := ⟨(by intro d hd; cases hd), rfl, by cases s <;> simp [val], by omega, by omega, fun _ => by omega, fun _ => by omega⟩
theorem AddI.step {s : Bool} {X Y : List Int} {k : Nat} {c : Int} {L : List Int} (h : AddI s X Y k c L) (d c' : Int) (h0 : 0 ≤ d) (h1 : d < 10000) (g0 : -1 ≤ c') (g1 : c' ≤ 1)
    (gs : s = true → 0 ≤ c') (gd : s = false → c' ≤ 0) (he : d + 10000 * c' = c + X.getD k 0 + (if s then Y.getD k 0 else - Y.getD k 0)) : AddI s X Y (k + 1) c' (L ++ [d]) := by
  refine ⟨?_, by simp [h.len], ?_, g0, g1, gs, gd⟩
  · intro x hx
    rcases List.mem_append.1 hx with hx | hx
    · exact h.dig x hx
    · simp at hx; subst hx; omega
  · rw [val_append, val_take_succ, val_take_succ, h.len]
    have h3 := h.sum
    simp only [val, Int.mul_zero, Int.add_zero, Int.pow_succ]
    generalize (10000 : Int) ^ k = p at *
    generalize X.getD k 0 = x at *
    generalize Y.getD k 0 = y at *
    have : p * (d + 10000 * c') = p * (c + x + (if s then y else -y)) := by rw [he]
    cases s <;> simp at * <;> grind
theorem AddI.done {s : Bool} {X Y : List Int} {k : Nat} {c : Int} {L : List Int} (h : AddI s X Y k c L) (hx : X.length ≤ k) (hy : Y.length ≤ k) (hc : c ≤ 0) (hge : s = false → val Y ≤ val X) :
    val L = val X + (if s then val Y else - val Y) := by
  have h1 := h.sum
  rw [List.take_of_length_le hx, List.take_of_length_le hy] at h1
  have h2 := val_lt h.dig
  rw [h.len] at h2
  have h3 := val_nonneg h.dig
  have hp : (0 : Int) < 10000 ^ k := Int.pow_pos (by decide)
  have h4 : c = 0 := by
    cases s
    · have := hge rfl
      have h5 := h.c0
      by_cases h6 : c = -1
      · subst h6; simp at h1; omega
      · omega
    · have := h.cs rfl; omega
  subst h4
  simpa using h1
def mu (M : Nat) (k c : Int) : Nat := 2 * (M + 1 - k.toNat) + (if 0 < c then 1 else 0)
theorem mu_lt {M k : Nat} {c c' : Int} (hk : k ≤ M) : mu M ((k : Int) + 1) c' < mu M (k : Int) c := by
  unfold mu
  rw [show ((k : Int) + 1).toNat = k + 1 by omega, show (k : Int).toNat = k by omega]
  split <;> split <;> omega
end Go.Proofs.Ytlcelocjfmclkaa.Z
