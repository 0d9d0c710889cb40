/-
  Words for memory: a stretch within a block of limbs that is known whole, written in place.
-/
import Derived.Test.YtjihapnplfdmmaaDoorN5
namespace Go.Proofs.YtjihapnplfdmmaaDoor
open Go.RowKit
set_option linter.unusedVariables false
namespace NC
open L
open Z (Nz Tz cmpv)
theorem Wn.part (P : List Int) (i n : Nat) : Wn ((P.map (Value.int .u32)).toArray) i ((P.drop i).take n) := by
  intro j hj
  have hj' : i + j < P.length := by simp at hj; omega
  have hn : j < n := by simp at hj; omega
  rw [List.getElem?_toArray, List.getElem?_map, List.getElem?_eq_getElem hj', List.getD_eq_getElem?_getD, List.getElem?_take, if_pos hn, List.getElem?_drop, List.getElem?_eq_getElem hj']
  rfl
theorem Ed.row {w w' : World} {g i n : Nat} {P M : List Int} (h : Ed w w' g ((P.map (Value.int .u32)).toArray) i n M) (hin : i + n ≤ P.length) : Row .u32 50 w' g (P.take i ++ (M ++ P.drop (i + n))) := by
  obtain ⟨cs', hb, hsz, hM, hf⟩ := h.blk
  have e : cs' = ((P.take i ++ (M ++ P.drop (i + n))).map (Value.int .u32)).toArray := by
    apply Array.ext_getElem?
    intro j
    have hlen := h.len
    have hr : ∀ X : List Int, ((X.map (Value.int .u32)).toArray)[j]? = (X[j]?).map (Value.int .u32) := fun X => by simp
    rw [hr]
    rcases Nat.lt_or_ge j i with h1 | h1
    · rw [hf j (.inl h1), List.getElem?_append_left (by simp; omega), List.getElem?_take, if_pos h1, hr]
    · rw [List.getElem?_append_right (by simp; omega), List.length_take, Nat.min_eq_left (by omega)]
      rcases Nat.lt_or_ge j (i + n) with h2 | h2
      · have := hM (j - i) (by omega)
        rw [show i + (j - i) = j by omega] at this
        rw [this, List.getElem?_append_left (by omega), List.getD_eq_getElem?_getD, List.getElem?_eq_getElem (by omega)]; rfl
      · rw [hf j (.inr h2), List.getElem?_append_right (by omega), List.getElem?_drop, hr, show i + n + (j - i - M.length) = j by omega]
  unfold Row
  rw [← e]; exact hb
/-- multiplying under way: so many limbs of l have been taken times m -/
structure MulN (l m : List Int) (N i : Nat) (P : List Int) : Prop where
  len : P.length = N
  lim : Lim P
  val : lv P = lv (l.take i) * lv m
  zero : ∀ j, i + m.length ≤ j → P.getD j 0 = 0
theorem MulN.start (l m : List Int) (N : Nat) : MulN l m N 0 (List.replicate N 0) := ⟨by simp, Lim.rep _, by rw [lv_rep]; simp [lv], fun j _ => Z.getD_rep _ _⟩
theorem MulN.step {l m P M : List Int} {N i : Nat} {k q : Int} (h : MulN l m N i P) (hi : i + m.length < N) (hq : l.getD i 0 = q) (hM : M.length = N - i) (lM : Lim M) (k0 : 0 ≤ k) (k1 : k < 4294967296)
    (hv : lv M + 4294967296 ^ m.length * k = lv (P.drop i) + q * lv m) (hf : ∀ j, m.length ≤ j → M.getD j 0 = (P.drop i).getD j 0) : MulN l m N (i + 1) ((P.take i ++ M).set (i + m.length) k) := by
  have hl : (P.take i ++ M).length = N := by simp [hM, h.len]; omega
  have e1 : ∀ j, (P.drop i).getD j 0 = P.getD (i + j) 0 := fun j => by simp [List.getD_eq_getElem?_getD]
  have e2 : ∀ j, i ≤ j → (P.take i ++ M).getD j 0 = M.getD (j - i) 0 := fun j hj => by
    rw [List.getD_eq_getElem?_getD, List.getElem?_append_right (by simp [h.len]; omega), List.getD_eq_getElem?_getD]
    simp [h.len, Nat.min_eq_left (show i ≤ N by omega)]
  refine ⟨by simp [hl], (((h.lim.take i).app lM).set _ k0 k1), ?_, fun j hj => ?_⟩
  · rw [lv_set _ _ _ (by omega), e2 _ (by omega), show i + m.length - i = m.length by omega, hf _ (Nat.le_refl _), e1, h.zero _ (Nat.le_refl _), lv_append, lv_take_succ, hq]
    have h2 := lv_cut P i (by rw [h.len]; omega)
    have h3 := h.val
    have e3 : (P.take i).length = i := by simp [h.len]; omega
    rw [e3, Int.pow_add]
    have e4 : (4294967296 : Int) ^ i * (lv M + 4294967296 ^ m.length * k) = 4294967296 ^ i * (lv (P.drop i) + q * lv m) := by rw [hv]
    grind
  · rw [getD_set (by omega), if_neg (by omega), e2 _ (by omega), hf _ (by omega), e1, h.zero _ (by omega)]
end NC
end Go.Proofs.YtjihapnplfdmmaaDoor
