/-
  Plain mathematics for package float: sign, exponent, fraction, class, rank and steps of a number's bits, as functions on integers; no program in sight.
-/
import Derived.Laws.BitsAllLaws
namespace Go.Proofs.Ytlcelocjfmclkaa.F
open Go
set_option linter.unusedVariables false

/-- the sign -/
def sgn (x : Int) : Bool := decide (9223372036854775808 ≤ x)
def neg (x : Int) : Int := if x < 9223372036854775808 then x + 9223372036854775808 else x - 9223372036854775808
def abs (x : Int) : Int := x % 9223372036854775808
def exq (x : Int) : Int := x % 9223372036854775808 / 4503599627370496
def fra (x : Int) : Int := x % 4503599627370496
def cls (x : Int) : Int := if exq x = 0 then (if fra x = 0 then 1 else 2) else if exq x < 2047 then 3 else if fra x = 0 then 4 else 5
/-- the rank of a number that is one -/
def rnk (x : Int) : Int := if x < 9223372036854775808 then x else 9223372036854775808 - x
/-- the number of a rank -/
def num (n : Int) : Int := if n < 0 then 9223372036854775808 - n else n
def nxt (x : Int) : Int :=
  if 9218868437227405312 < x % 9223372036854775808 then 9221120237041090560
  else if x = 9218868437227405312 then x
  else if x = 9223372036854775808 then 1
  else if x < 9223372036854775808 then x + 1 else x - 1
def prv (x : Int) : Int :=
  if 9218868437227405312 < x % 9223372036854775808 then 9221120237041090560 else neg (nxt (neg x))

theorem sgn_t {x : Int} (h : 9223372036854775808 ≤ x) : sgn x = true := by simp [sgn, h]
theorem sgn_f {x : Int} (h : x < 9223372036854775808) : sgn x = false := by simp [sgn]; omega
theorem sgn_iff (x : Int) : sgn x = true ↔ 9223372036854775808 ≤ x := by simp [sgn]
theorem sgn_iff' (x : Int) : sgn x = false ↔ x < 9223372036854775808 := by simp [sgn]

theorem neg_bd (x : Int) (h0 : 0 ≤ x) (h1 : x ≤ 18446744073709551615) : 0 ≤ neg x ∧ neg x ≤ 18446744073709551615 := by unfold neg; split <;> omega
theorem abs_bd (x : Int) : 0 ≤ abs x ∧ abs x ≤ 9223372036854775807 := by unfold abs; omega
theorem exq_bd (x : Int) : 0 ≤ exq x ∧ exq x ≤ 2047 := by unfold exq; omega
theorem fra_bd (x : Int) : 0 ≤ fra x ∧ fra x ≤ 4503599627370495 := by unfold fra; omega
theorem exq_abs (x : Int) : abs x / 4503599627370496 = exq x := rfl
theorem neg_neg (x : Int) (h0 : 0 ≤ x) (h1 : x ≤ 18446744073709551615) : neg (neg x) = x := by unfold neg; split <;> split <;> omega
theorem neg_ne (x : Int) : neg x ≠ x := by unfold neg; split <;> omega
theorem abs_neg (x : Int) : abs (neg x) = abs x := by unfold abs neg; split <;> omega
theorem exq_neg (x : Int) : exq (neg x) = exq x := by unfold exq neg; split <;> omega
theorem fra_neg (x : Int) : fra (neg x) = fra x := by unfold fra neg; split <;> omega
theorem cls_neg (x : Int) : cls (neg x) = cls x := by unfold cls; rw [exq_neg, fra_neg]
theorem cls_bd (x : Int) : 1 ≤ cls x ∧ cls x ≤ 5 := by unfold cls; repeat (first | omega | split)
theorem cls_nan (x : Int) : cls x = 5 ↔ 9218868437227405312 < x % 9223372036854775808 := by
  unfold cls exq fra; constructor
  · intro h; repeat (first | omega | split at h)
  · intro h; rw [if_neg (by omega), if_neg (by omega), if_neg (by omega)]

theorem xor_nat (x : Nat) (h : x < 18446744073709551616) : x ^^^ 9223372036854775808 = if x < 9223372036854775808 then x + 9223372036854775808 else x - 9223372036854775808 := by
  have h2 : (9223372036854775808 : Nat) = 2 ^ 63 := rfl
  split
  · have e : x ^^^ 9223372036854775808 = x ||| 9223372036854775808 := by
      apply Nat.eq_of_testBit_eq; intro i
      rw [Nat.testBit_xor, Nat.testBit_or]
      by_cases hi : i = 63
      · subst hi; rw [Nat.testBit_lt_two_pow (by omega : x < 2 ^ 63)]; simp
      · have : Nat.testBit 9223372036854775808 i = false := by rw [h2]; exact Nat.testBit_two_pow_of_ne (by omega)
        rw [this]; simp
    rw [e, Nat.or_comm, nat_join 63 _ _ (by decide) (by omega)]; omega
  · obtain ⟨y, rfl⟩ : ∃ y, x = 9223372036854775808 + y := ⟨x - 9223372036854775808, by omega⟩
    have e : (9223372036854775808 + y) = 9223372036854775808 ||| y := (nat_join 63 _ _ (by decide) (by omega)).symm
    rw [e]
    have : (9223372036854775808 ||| y) ^^^ 9223372036854775808 = y := by
      apply Nat.eq_of_testBit_eq; intro i
      rw [Nat.testBit_xor, Nat.testBit_or]
      by_cases hi : i = 63
      · subst hi; rw [Nat.testBit_lt_two_pow (by omega : y < 2 ^ 63)]; simp
      · have : Nat.testBit 9223372036854775808 i = false := by rw [h2]; exact Nat.testBit_two_pow_of_ne (by omega)
        rw [this]; simp
    rw [this]
    have : (9223372036854775808 ||| y) = 9223372036854775808 + y := nat_join 63 _ _ (by decide) (by omega)
    omega
theorem neg_bits (x : Int) (h0 : 0 ≤ x) (h1 : x ≤ 18446744073709551615) : bits .xor .u64 x 9223372036854775808 = neg x := by
  rw [u64_xor x _ h0 (by omega) (by decide) (by decide)]
  rw [show (9223372036854775808 : Int).toNat = 9223372036854775808 from rfl, xor_nat _ (by omega)]
  unfold neg; split <;> split <;> omega
theorem abs_bits (x : Int) (h0 : 0 ≤ x) (h1 : x ≤ 18446744073709551615) : bits .andNot .u64 x 9223372036854775808 = abs x := by
  rw [u64_andNot x _ h0 (by omega) (by decide) (by decide)]
  rw [show 18446744073709551615 - (9223372036854775808 : Int).toNat = 2 ^ 63 - 1 from rfl, Nat.and_two_pow_sub_one_eq_mod]
  unfold abs; omega
theorem or_bits (e f : Int) (h0 : 0 ≤ e) (h1 : e ≤ 2047) (h2 : 0 ≤ f) (h3 : f ≤ 4503599627370495) : bits .or .u64 (e * 4503599627370496) f = e * 4503599627370496 + f := by
  rw [u64_or _ _ (by omega) (by omega) h2 (by omega), nat_join 52 _ _ (by omega) (by omega)]
  omega
def mk (s : Bool) (e f : Int) : Int := if s then neg (e * 4503599627370496 + f) else e * 4503599627370496 + f
theorem mk_parts (x : Int) (h0 : 0 ≤ x) (h1 : x ≤ 18446744073709551615) : mk (sgn x) (exq x) (fra x) = x := by
  unfold mk neg exq fra
  by_cases h : 9223372036854775808 ≤ x
  · rw [sgn_t h]; simp only [if_true]; split <;> omega
  · rw [sgn_f (by omega)]; simp; omega
def ulp (x : Int) : Int := (if 1 ≤ exq x then exq x else 1) - 1075
theorem rnk_bd (x : Int) (h0 : 0 ≤ x) (h1 : x ≤ 18446744073709551615) : -9223372036854775807 ≤ rnk x ∧ rnk x ≤ 9223372036854775807 := by unfold rnk; split <;> omega
theorem num_bd (n : Int) (h0 : -9218868437227405312 ≤ n) (h1 : n ≤ 9218868437227405312) : 0 ≤ num n ∧ num n ≤ 18446744073709551615 := by unfold num; split <;> omega
theorem nxt_bd (x : Int) (h0 : 0 ≤ x) (h1 : x ≤ 18446744073709551615) : 0 ≤ nxt x ∧ nxt x ≤ 18446744073709551615 := by unfold nxt; repeat (first | omega | split)
theorem prv_bd (x : Int) (h0 : 0 ≤ x) (h1 : x ≤ 18446744073709551615) : 0 ≤ prv x ∧ prv x ≤ 18446744073709551615 := by
  have a := neg_bd x h0 h1
  have b := nxt_bd (neg x) a.1 a.2
  have c := neg_bd _ b.1 b.2
  unfold prv; split <;> omega
def nn (x : Int) : Prop := x % 9223372036854775808 ≤ 9218868437227405312
theorem nn_neg {x : Int} (h : nn x) : nn (neg x) := by unfold nn neg at *; split <;> omega
theorem rnk_neg (x : Int) (h0 : 0 ≤ x) (h1 : x ≤ 18446744073709551615) : rnk (neg x) = - rnk x := by unfold rnk neg; split <;> split <;> omega
theorem nn_nxt {x : Int} (h0 : 0 ≤ x) (h1 : x ≤ 18446744073709551615) (h : nn x) : nn (nxt x) := by
  unfold nn nxt at *; repeat (first | omega | split)
theorem nn_prv {x : Int} (h0 : 0 ≤ x) (h1 : x ≤ 18446744073709551615) (h : nn x) : nn (prv x) := by
  have a := neg_bd x h0 h1
  have b := nn_neg h
  have c := nn_neg (nn_nxt a.1 a.2 b)
  unfold prv
  rw [if_neg (by unfold nn at h; omega)]
  exact c
theorem rnk_nxt {x : Int} (h0 : 0 ≤ x) (h1 : x ≤ 18446744073709551615) (h : nn x) : rnk (nxt x) = if x = 9218868437227405312 then rnk x else rnk x + 1 := by
  unfold nn at h
  unfold nxt
  rw [if_neg (by omega)]
  by_cases a : x = 9218868437227405312
  · rw [if_pos a, if_pos a]
  · rw [if_neg a, if_neg a]
    by_cases b : x = 9223372036854775808
    · rw [if_pos b, b]; decide
    · rw [if_neg b]; unfold rnk; split <;> (repeat (first | omega | split))
theorem rnk_prv {x : Int} (h0 : 0 ≤ x) (h1 : x ≤ 18446744073709551615) (h : nn x) : rnk (prv x) = if x = 18442240474082181120 then rnk x else rnk x - 1 := by
  have a := neg_bd x h0 h1
  have hn := nn_neg h
  have b := nxt_bd _ a.1 a.2
  unfold prv
  rw [if_neg (by unfold nn at h; omega), rnk_neg _ b.1 b.2, rnk_nxt a.1 a.2 hn, rnk_neg x h0 h1]
  by_cases c : x = 18442240474082181120
  · rw [if_pos c, if_pos (by rw [c]; decide)]; omega
  · rw [if_neg c, if_neg (by unfold neg; split <;> omega)]; omega
theorem exq_ref (x : Int) : x / 4503599627370496 % 2048 = exq x := by unfold exq; omega
theorem fra_ref (x : Int) : x % 4503599627370496 = fra x := rfl
theorem sgn_mk (b : Bool) (e f : Int) (h0 : 0 ≤ e) (h1 : e ≤ 2047) (h2 : 0 ≤ f) (h3 : f ≤ 4503599627370495) : sgn (mk b e f) = b := by
  cases b
  · simp [mk, sgn]; omega
  · simp [mk, sgn, neg]; rw [if_pos (by omega)]; omega
theorem exq_mk (b : Bool) (e f : Int) (h0 : 0 ≤ e) (h1 : e ≤ 2047) (h2 : 0 ≤ f) (h3 : f ≤ 4503599627370495) : exq (mk b e f) = e := by
  cases b
  · simp [mk, exq]; omega
  · simp only [mk, if_true]; rw [exq_neg]; unfold exq; omega
theorem fra_mk (b : Bool) (e f : Int) (h0 : 0 ≤ e) (h1 : e ≤ 2047) (h2 : 0 ≤ f) (h3 : f ≤ 4503599627370495) : fra (mk b e f) = f := by
  cases b
  · simp [mk, fra]; omega
  · simp only [mk, if_true]; rw [fra_neg]; unfold fra; omega
theorem mk_bd (b : Bool) (e f : Int) (h0 : 0 ≤ e) (h1 : e ≤ 2047) (h2 : 0 ≤ f) (h3 : f ≤ 4503599627370495) : 0 ≤ mk b e f ∧ mk b e f ≤ 18446744073709551615 := by
  cases b
  · simp only [mk]; constructor <;> (simp; omega)
  · simp only [mk, if_true]; unfold neg; split <;> omega
theorem sgn_neg (x : Int) (h0 : 0 ≤ x) (h1 : x ≤ 18446744073709551615) : sgn (neg x) = !sgn x := by
  by_cases h : 9223372036854775808 ≤ x
  · rw [sgn_t h, sgn_f (x := neg x) (by unfold neg; split <;> omega)]; rfl
  · rw [sgn_f (x := x) (by omega), sgn_t (x := neg x) (by unfold neg; split <;> omega)]; rfl
theorem rnk_parts (x : Int) (h0 : 0 ≤ x) (h1 : x ≤ 18446744073709551615) (hn : nn x) : (if sgn x then -(exq x * 4503599627370496 + fra x) else exq x * 4503599627370496 + fra x) = rnk x := by
  unfold nn at hn
  by_cases h : 9223372036854775808 ≤ x
  · simp only [sgn_t h, if_true]; unfold rnk exq fra; rw [if_neg (by omega)]; omega
  · rw [sgn_f (by omega)]; simp only [Bool.false_eq_true, if_false]; unfold rnk exq fra; rw [if_pos (by omega)]; omega
theorem cls_fin (x : Int) (h : x % 9223372036854775808 < 9218868437227405312) : cls x ≤ 3 ∧ exq x ≤ 2046 := by
  have he : exq x ≤ 2046 := by unfold exq; omega
  refine ⟨?_, he⟩
  unfold cls; repeat (first | omega | split)
theorem rnk_fin (x : Int) (h0 : 0 ≤ x) (h1 : x ≤ 18446744073709551615) (h : x % 9223372036854775808 < 9218868437227405312) : -9218868437227405311 ≤ rnk x ∧ rnk x ≤ 9218868437227405311 := by
  unfold rnk; split <;> omega
theorem nxt_num (x : Int) (h0 : 0 ≤ x) (h1 : x ≤ 18446744073709551615) (h : x % 9223372036854775808 < 9218868437227405312) : nxt x = if rnk x = -1 then 9223372036854775808 else num (rnk x + 1) := by
  unfold nxt num rnk
  repeat (first | omega | split)
theorem prv_num (x : Int) (h0 : 0 ≤ x) (h1 : x ≤ 18446744073709551615) (h : x % 9223372036854775808 < 9218868437227405312) : prv x = num (rnk x - 1) := by
  unfold prv nxt num rnk
  rw [if_neg (by omega)]
  by_cases a : x < 9223372036854775808
  · have e : neg x = x + 9223372036854775808 := by unfold neg; rw [if_pos a]
    rw [e]
    unfold neg
    repeat (first | omega | split)
  · have e : neg x = x - 9223372036854775808 := by unfold neg; rw [if_neg a]
    rw [e]
    unfold neg
    repeat (first | omega | split)
end Go.Proofs.Ytlcelocjfmclkaa.F
