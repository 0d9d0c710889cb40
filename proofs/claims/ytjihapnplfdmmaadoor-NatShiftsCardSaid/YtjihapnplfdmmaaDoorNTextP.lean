/-
  Plain mathematics: decimal digits, the lowest first; noughts at the end; a list turned round in place; division by a limb.
-/
import Derived.Test.YtjihapnplfdmmaaDoorNDivQ
import Derived.Test.YtjihapnplfdmmaaDoorStr
namespace Go.Proofs.YtjihapnplfdmmaaDoor.L
open Z (Nz Tz cmpv)
/-- so many decimal digits of n, the lowest first, as bytes' numbers -/
def dlr (n : Nat) : Nat → List Int
  | 0 => []
  | k + 1 => (48 + (n % 10 : Nat) : Int) :: dlr (n / 10) k
theorem dlr_len (n k : Nat) : (dlr n k).length = k := by
  induction k generalizing n with
  | zero => rfl
  | succ k ih => simp [dlr, ih]
theorem dlr_succ (n k : Nat) : dlr n (k + 1) = dlr n k ++ [(48 + (n / 10 ^ k % 10 : Nat) : Int)] := by
  induction k generalizing n with
  | zero => simp [dlr]
  | succ k ih =>
    rw [dlr, ih (n / 10), dlr]
    simp only [List.cons_append]
    rw [Nat.div_div_eq_div_mul, Nat.pow_succ, Nat.mul_comm 10]
theorem dlr_zero (k : Nat) : dlr 0 k = List.replicate k 48 := by
  induction k with
  | zero => rfl
  | succ k ih => simp [dlr, ih, List.replicate_succ]
/-- the decimal text, the lowest first -/
def rdec (n : Nat) : List Int := (dec n).reverse.map fun u => (u.toNat : Int)
theorem rdec_small {n : Nat} (h : n < 10) : rdec n = [(48 + n : Int)] := by
  unfold rdec
  rw [dec_small h]
  simp only [List.reverse_cons, List.reverse_nil, List.nil_append, List.map_cons, List.map_nil]
  unfold dg
  congr 1
  rw [UInt8.toNat_ofNat']
  omega
theorem rdec_more {n : Nat} (h : ¬ n < 10) : rdec n = (48 + (n % 10 : Nat) : Int) :: rdec (n / 10) := by
  unfold rdec
  rw [dec_more h]
  simp only [List.reverse_append, List.reverse_cons, List.reverse_nil, List.nil_append, List.map_cons, List.singleton_append]
  unfold dg
  congr 1
  rw [UInt8.toNat_ofNat']
  omega
theorem rdec_spec (n : Nat) (h0 : 0 < n) : rdec n ≠ [] ∧ (∀ h : rdec n ≠ [], (rdec n).getLast h ≠ 48) ∧ 10 ^ ((rdec n).length - 1) ≤ n ∧ ∀ k, (rdec n).length ≤ k → dlr n k = rdec n ++ List.replicate (k - (rdec n).length) 48 := by
  induction n using Nat.strongRecOn with
  | ind n ih =>
    by_cases h : n < 10
    · rw [rdec_small h]
      refine ⟨by simp, fun _ => by simp; omega, by simp; omega, fun k hk => ?_⟩
      obtain ⟨k, rfl⟩ : ∃ k', k = k' + 1 := ⟨k - 1, by simp at hk; omega⟩
      rw [dlr, show n / 10 = 0 by omega, dlr_zero, Nat.mod_eq_of_lt h]
      simp
    · obtain ⟨h1, h2, h3, h4⟩ := ih (n / 10) (by omega) (by omega)
      rw [rdec_more h]
      have hl := List.length_pos_iff.2 h1
      refine ⟨by simp, fun _ => ?_, ?_, fun k hk => ?_⟩
      · rw [List.getLast_cons h1]; exact h2 h1
      · rw [List.length_cons, Nat.add_sub_cancel]
        have : 10 ^ (rdec (n / 10)).length = 10 ^ ((rdec (n / 10)).length - 1) * 10 := by rw [← Nat.pow_succ]; congr 1; omega
        omega
      · rw [List.length_cons] at hk
        obtain ⟨k, rfl⟩ : ∃ k', k = k' + 1 := ⟨k - 1, by omega⟩
        rw [dlr, h4 k (by omega), List.length_cons, Nat.add_sub_add_right]; rfl
theorem trim_uniq {A B : List Int} {i j : Nat} (h : A ++ List.replicate i 48 = B ++ List.replicate j 48) (hA : ∀ h : A ≠ [], A.getLast h ≠ 48) (hB : ∀ h : B ≠ [], B.getLast h ≠ 48) : A = B := by
  have key : ∀ (A B : List Int) (i j : Nat), A ++ List.replicate i (48 : Int) = B ++ List.replicate j 48 → (∀ h : B ≠ [], B.getLast h ≠ 48) → ¬ A.length < B.length := by
    intro A B i j h hB hlt
    have hne : B ≠ [] := by intro e; subst e; simp at hlt
    refine hB hne ?_
    rw [List.getLast_eq_getElem]
    have e : (A ++ List.replicate i (48 : Int))[B.length - 1]? = (B ++ List.replicate j 48)[B.length - 1]? := by rw [h]
    have hl := congrArg List.length h
    simp only [List.length_append, List.length_replicate] at hl
    rw [List.getElem?_append_right (by omega), List.getElem?_append_left (by omega), List.getElem?_replicate, if_pos (by omega), List.getElem?_eq_getElem (by omega)] at e
    injection e with e
    exact e.symm
  have h1 := key A B i j h hB
  have h2 := key B A j i h.symm hA
  have hl : A.length = B.length := by omega
  exact (List.append_inj h hl).1
/-- what is left when the noughts at the end are struck is the text, the lowest first -/
theorem strip_dec {n k m : Nat} (h0 : 0 < n) (hk : n < 10 ^ k) (hm : m ≤ k) (ht : ∀ d ∈ (dlr n k).drop m, d = 48) (hl : m = 0 ∨ (dlr n k).getD (m - 1) 0 ≠ 48) : (dlr n k).take m = rdec n := by
  obtain ⟨h1, h2, h3, h4⟩ := rdec_spec n h0
  have hlen : (rdec n).length ≤ k := by
    rcases Nat.lt_or_ge k (rdec n).length with h | h
    · have := Nat.pow_le_pow_right (by decide : 0 < 10) (show k ≤ (rdec n).length - 1 by omega)
      omega
    · exact h
  have e1 := h4 k hlen
  have e2 : dlr n k = (dlr n k).take m ++ List.replicate (k - m) 48 := by
    have : (dlr n k).drop m = List.replicate (k - m) 48 := by
      have e := List.eq_replicate_of_mem (a := (48 : Int)) ht
      rw [List.length_drop, dlr_len] at e
      exact e
    rw [← this, List.take_append_drop]
  refine trim_uniq (e2.symm.trans e1) (fun hne => ?_) h2
  rcases hl with rfl | hl
  · simp at hne
  · have hm0 : 0 < m := by rcases Nat.eq_zero_or_pos m with rfl | h; · simp at hne
                           · exact h
    rw [List.getLast_eq_getElem]
    have hlm : ((dlr n k).take m).length = m := by rw [List.length_take, dlr_len]; omega
    have hlk := dlr_len n k
    rw [List.getD_eq_getElem?_getD, List.getElem?_eq_getElem (by omega)] at hl
    simp only [List.getElem_take, hlm]
    exact hl
theorem rdec_rev (n : Nat) : (rdec n).reverse = (dec n).map fun u => (u.toNat : Int) := by unfold rdec; rw [List.map_reverse, List.reverse_reverse]
/-- division by one limb under way, from the highest one on -/
structure DbI (X : List Int) (q : Int) (k : Nat) (M : List Int) (r : Int) : Prop where
  len : M.length = X.length
  lim : Lim M
  r0 : 0 ≤ r
  r1 : r < q
  rest : ∀ j, j < k → M.getD j 0 = X.getD j 0
  sum : lv (M.drop k) * q + r = lv (X.drop k)
theorem DbI.start {X : List Int} {q : Int} (h : Lim X) (h0 : 0 < q) : DbI X q X.length X 0 := ⟨rfl, h, by omega, h0, fun _ _ => rfl, by simp [lv]⟩
theorem DbI.step {X M : List Int} {q r x : Int} {k : Nat} (h : DbI X q (k + 1) M r) (hk : k < X.length) (hx : X.getD k 0 = x) (x0 : 0 ≤ x) (x1 : x < 4294967296) :
    DbI X q k (M.set k ((r * 4294967296 + x) / q)) ((r * 4294967296 + x) % q) ∧ (r * 4294967296 + x) / q < 4294967296 ∧ 0 ≤ (r * 4294967296 + x) / q := by
  have r0 := h.r0
  have r1 := h.r1
  have hq : 0 < q := by omega
  have e := Int.emod_add_mul_ediv (r * 4294967296 + x) q
  have z0 : 0 ≤ (r * 4294967296 + x) / q := Int.ediv_nonneg (by omega) (by omega)
  have z1 : (r * 4294967296 + x) / q < 4294967296 := by rw [Int.ediv_lt_iff_lt_mul hq]; omega
  refine ⟨⟨by simp [h.len], h.lim.set _ z0 z1, Int.emod_nonneg _ (by omega), Int.emod_lt_of_pos _ hq, fun j hj => ?_, ?_⟩, z1, z0⟩
  · rw [getD_set (by rw [h.len]; exact hk), if_neg (by omega)]; exact h.rest j (by omega)
  · have hkM : k < M.length := by rw [h.len]; exact hk
    have e1 := lv_drop (L := M.set k ((r * 4294967296 + x) / q)) k (by simp [h.len]; exact hk)
    rw [getD_set (by rw [h.len]; exact hk), if_pos rfl, show (M.set k ((r * 4294967296 + x) / q)).drop (k + 1) = M.drop (k + 1) by rw [List.drop_set, if_pos (by omega)]] at e1
    rw [e1, lv_drop (L := X) k hk, hx, ← h.sum]
    grind
theorem DbI.done {X M : List Int} {q r : Int} (h : DbI X q 0 M r) : lv M = lv X / q ∧ r = lv X % q := by
  have e := h.sum
  simp only [List.drop_zero] at e
  have r0 := h.r0
  have r1 := h.r1
  rw [← e]
  refine ⟨?_, ?_⟩
  · rw [Int.add_comm, Int.add_mul_ediv_right _ _ (by omega), Int.ediv_eq_zero_of_lt r0 r1]; omega
  · rw [Int.add_comm, Int.add_mul_emod_self_right, Int.emod_eq_of_lt r0 r1]
/-- a list being turned round in place -/
structure RvI (X : List Int) (i : Nat) (M : List Int) : Prop where
  len : M.length = X.length
  cell : ∀ t, t < X.length → M.getD t 0 = if t < i ∨ X.length - 1 - i < t then X.getD (X.length - 1 - t) 0 else X.getD t 0
theorem RvI.start (X : List Int) : RvI X 0 X := ⟨rfl, fun t ht => by rw [if_neg (by omega)]⟩
theorem RvI.step {X M : List Int} {i : Nat} (h : RvI X i M) (hi : 2 * i + 1 < X.length) : RvI X (i + 1) ((M.set i (M.getD (X.length - 1 - i) 0)).set (X.length - 1 - i) (M.getD i 0)) := by
  have hl := h.len
  have hl1 : (M.set i (M.getD (X.length - 1 - i) 0)).length = X.length := by simp [hl]
  refine ⟨by simp [hl], fun t ht => ?_⟩
  rw [getD_set (by omega), getD_set (by omega)]
  have c1 := h.cell i (by omega)
  have c2 := h.cell (X.length - 1 - i) (by omega)
  rw [if_neg (by omega)] at c1 c2
  by_cases e1 : t = X.length - 1 - i
  · subst e1
    rw [if_pos rfl, if_pos (by omega), c1]
    congr 1; omega
  · rw [if_neg e1]
    by_cases e2 : t = i
    · subst e2
      rw [if_pos rfl, if_pos (by omega), c2]
    · rw [if_neg e2, h.cell t ht]
      by_cases e3 : t < i ∨ X.length - 1 - i < t
      · rw [if_pos e3, if_pos (by omega)]
      · rw [if_neg e3, if_neg (by omega)]
theorem RvI.done {X M : List Int} {i : Nat} (h : RvI X i M) (hi : X.length ≤ 2 * i + 1) : M = X.reverse := by
  have hl := h.len
  apply List.ext_getElem (by simp [hl])
  intro t h1 h2
  have c := h.cell t (by omega)
  rw [List.getElem_reverse]
  rw [List.getD_eq_getElem?_getD, List.getElem?_eq_getElem (by omega)] at c
  by_cases e : t < i ∨ X.length - 1 - i < t
  · rw [if_pos e, List.getD_eq_getElem?_getD, List.getElem?_eq_getElem (by omega)] at c
    exact c
  · rw [if_neg e, List.getD_eq_getElem?_getD, List.getElem?_eq_getElem (by omega)] at c
    have : X.length - 1 - t = t := by omega
    simp only [this]
    exact c
end Go.Proofs.YtjihapnplfdmmaaDoor.L
