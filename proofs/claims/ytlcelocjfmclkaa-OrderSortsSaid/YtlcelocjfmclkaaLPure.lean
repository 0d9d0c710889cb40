/-
  Plain mathematics: lists of limbs of 32 bits, lowest first; their value.
-/
import Derived.Test.YtlcelocjfmclkaaZPure
namespace Go.Proofs.Ytlcelocjfmclkaa.L
open Z (Nz)
def lv : List Int → Int
  | [] => 0
  | d :: r => d + 4294967296 * lv r
def Lim (L : List Int) : Prop := ∀ d ∈ L, 0 ≤ d ∧ d < 4294967296
theorem lv_append (a b : List Int) : lv (a ++ b) = lv a + 4294967296 ^ a.length * lv b := by
  induction a with
  | nil => simp [lv]
  | cons d r ih => simp only [List.cons_append, lv, ih, List.length_cons, Int.pow_succ]; grind
theorem lv_nonneg {L : List Int} (h : Lim L) : 0 ≤ lv L := by
  induction L with
  | nil => simp [lv]
  | cons d r ih =>
    have h1 := h d (by simp)
    have h2 := ih fun x hx => h x (by simp [hx])
    simp only [lv]; omega
theorem Lim.take {L : List Int} (h : Lim L) (n : Nat) : Lim (L.take n) := fun d hd => h d (List.mem_of_mem_take hd)
theorem Lim.drop {L : List Int} (h : Lim L) (n : Nat) : Lim (L.drop n) := fun d hd => h d (List.mem_of_mem_drop hd)
theorem Lim.nil : Lim [] := by intro d h; cases h
theorem Lim.app {L M : List Int} (h : Lim L) (h' : Lim M) : Lim (L ++ M) := by
  intro d hd
  rcases List.mem_append.1 hd with hd | hd
  · exact h d hd
  · exact h' d hd
theorem lv_lt {L : List Int} (h : Lim L) : lv L < 4294967296 ^ L.length := by
  induction L with
  | nil => simp [lv]
  | cons d r ih =>
    have h1 := h d (by simp)
    have h2 := ih fun x hx => h x (by simp [hx])
    simp only [lv, List.length_cons, Int.pow_succ]; omega
theorem pow_pos (n : Nat) : (0 : Int) < 4294967296 ^ n := Int.pow_pos (by decide)
theorem pow_mono {a b : Nat} (h : a ≤ b) : (4294967296 : Int) ^ a ≤ 4294967296 ^ b := by
  obtain ⟨c, rfl⟩ := Nat.exists_eq_add_of_le h
  rw [Int.pow_add]
  have h1 := pow_pos a
  have h2 := pow_pos c
  have := Int.mul_le_mul_of_nonneg_left (show (1 : Int) ≤ 4294967296 ^ c by omega) (show (0 : Int) ≤ 4294967296 ^ a by omega)
  omega
theorem pow_two (h : Nat) : (4294967296 : Int) ^ h = 2 ^ (32 * h) := by rw [show (4294967296 : Int) = 2 ^ 32 by decide, ← Int.pow_mul]
theorem lv_ge {L : List Int} (h : Lim L) (hn : Nz L) (hne : L ≠ []) : 4294967296 ^ (L.length - 1) ≤ lv L := by
  obtain ⟨r, d, rfl⟩ := List.eq_nil_or_concat L |>.resolve_left hne
  have hd := h d (by simp)
  have hd0 : d ≠ 0 := by have := hn hne; simpa using this
  have hr := lv_nonneg (L := r) fun x hx => h x (by simp [hx])
  simp only [List.concat_eq_append]
  rw [lv_append]
  have hd2 : lv [d] = d := by simp [lv]
  rw [hd2]
  have : (4294967296 : Int) ^ r.length * 1 ≤ 4294967296 ^ r.length * d := Int.mul_le_mul_of_nonneg_left (by omega) (by have := pow_pos r.length; omega)
  simp; omega
theorem lv_cut (L : List Int) (k : Nat) (hk : k ≤ L.length) : lv L = lv (L.take k) + 4294967296 ^ k * lv (L.drop k) := by
  conv => lhs; rw [← List.take_append_drop k L, lv_append]
  rw [List.length_take, Nat.min_eq_left hk]
theorem lv_len {L M : List Int} (hL : Lim L) (hM : Lim M) (nM : Nz M) (h : L.length < M.length) : lv L < lv M := by
  have h1 := lv_lt hL
  have h2 := lv_ge hM nM (by rintro rfl; simp at h)
  have h3 := pow_mono (show L.length ≤ M.length - 1 by omega)
  omega
theorem lv_same_len {L M : List Int} (hL : Lim L) (hM : Lim M) (hl : L.length = M.length) (h : lv L = lv M) : L = M := by
  induction L generalizing M with
  | nil => simp at hl; exact (List.eq_nil_of_length_eq_zero hl.symm).symm
  | cons d r ih =>
    cases M with
    | nil => simp at hl
    | cons d' r' =>
      simp only [lv] at h
      have h1 := hL d (by simp)
      have h2 := hM d' (by simp)
      have e : d = d' := by omega
      have e2 : lv r = lv r' := by omega
      rw [e, ih (fun x hx => hL x (by simp [hx])) (fun x hx => hM x (by simp [hx])) (by simpa using hl) e2]
theorem lv_inj {L M : List Int} (hL : Lim L) (hM : Lim M) (nL : Nz L) (nM : Nz M) (h : lv L = lv M) : L = M := by
  rcases Nat.lt_trichotomy L.length M.length with hl | hl | hl
  · have := lv_len hL hM nM hl; omega
  · exact lv_same_len hL hM hl h
  · have := lv_len hM hL nL hl; omega
theorem lv_bigN {L : List Int} (h : Lim L) (N : Nat) (hl : 3 * L.length ≤ N) : (lv L).natAbs < Z.big N := by
  have h1 := lv_lt h
  have h2 := lv_nonneg h
  have h3 := Z.pow_mono hl
  have h4 : (4294967296 : Int) ^ L.length ≤ 10000 ^ (3 * L.length) := by
    rw [Int.pow_mul]
    have : (4294967296 ^ L.length : Nat) ≤ (10000 ^ 3) ^ L.length := Nat.pow_le_pow_left (by decide) _
    have h := Int.ofNat_le.2 this
    rw [Int.natCast_pow, Int.natCast_pow] at h
    exact h
  have h5 := Z.big_cast N
  omega
theorem lv_big {L : List Int} (h : Lim L) (hl : L.length ≤ 30000) : (lv L).natAbs < Z.big 1000000 := lv_bigN h _ (by omega)
end Go.Proofs.Ytlcelocjfmclkaa.L
