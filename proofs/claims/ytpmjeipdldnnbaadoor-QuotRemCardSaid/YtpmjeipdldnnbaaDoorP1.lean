/-
  Package prod, pure: products of numbers, their values; what Mul, Fma and Dot tell.
-/
import Derived.Test.YtpmjeipdldnnbaaDoorK8
namespace Go.Proofs.YtpmjeipdldnnbaaDoor
set_option linter.unusedVariables false
set_option linter.unusedSimpArgs false
open Go.RowKit
set_option linter.unusedVariables false
set_option linter.unusedSimpArgs false
namespace PC
open L NC NK DC RC SC
/-- what fits easily: sums of products -/
structure FitP (d : Dy) (k : Int) : Prop where
  ok : Ok d
  x : -2148 ≤ d.x
  hi : S d ≤ k * sc 1 2048
  lo : -(k * sc 1 2048) ≤ S d
theorem big_small' {n : Nat} (h : n = 4204) : (2 : Int) ^ n < 4294967296 ^ 400 := by
  have e : (4294967296 : Int) = 2 ^ 32 := by decide
  rw [e, ← Int.pow_mul]
  exact two_lt' (by omega)
theorem inb_fitP {o x t : Int} (ht : t = 2056) (ho : o ≠ 0) (hx : -2148 ≤ x) (h1 : sc o x ≤ sc 1 t) (h2 : -(sc 1 t) ≤ sc o x) : inb o x := by
  have hp := sc_one_pos x
  have e1 : sc o x = o * sc 1 x := sc_mul1 _ _
  have hxt : x ≤ t := by
    rcases Int.lt_or_le t x with h | h
    · exfalso
      have h3 : sc 1 t < sc 1 x := by
        have h4 := sc1_le (x := t + 1) (y := x) (by omega) (by omega)
        have h5 := sc_shift 1 t 1 (by omega)
        rw [show (1 : Int) * 2 ^ 1 = 2 by decide, show t + ((1 : Nat) : Int) = t + 1 by omega, sc_mul1] at h5
        have := sc_one_pos t
        omega
      rw [e1] at h1 h2
      generalize sc 1 x = E at *
      generalize sc 1 t = B at *
      rcases Int.lt_or_le o 0 with h | h
      · have := Int.mul_le_mul_of_nonneg_right (show o ≤ -1 by omega) (Int.le_of_lt hp)
        omega
      · have := Int.mul_le_mul_of_nonneg_right (show 1 ≤ o by omega) (Int.le_of_lt hp)
        omega
    · exact h
  obtain ⟨n, hn⟩ : ∃ n : Nat, n = 4204 := ⟨_, rfl⟩
  have e2 : sc 1 t = 2 ^ n * sc 1 (-2148) := by
    rw [← sc_mul1, sc_two n _ (by omega)]
    congr 1; omega
  have e3 := sc1_le (x := -2148) (y := x) (by omega) (by omega)
  have hq := sc_one_pos (-2148)
  have hb := big_small' hn
  rw [e1, e2] at h1 h2
  have hP := two_pos' n
  have hx2 : x ≤ 2056 := by omega
  clear e2 hn ht
  have l1 : o ≤ 2 ^ n := by
    rcases Int.lt_or_le (2 ^ n) o with h | h
    · exfalso
      have a := Int.mul_le_mul_of_nonneg_right (show 2 ^ n + 1 ≤ o by omega) (Int.le_of_lt hp)
      have b := Int.mul_le_mul_of_nonneg_left e3 (Int.le_of_lt hP)
      rw [Int.add_mul, Int.one_mul] at a
      omega
    · exact h
  have l2 : -(2 ^ n) ≤ o := by
    rcases Int.lt_or_le o (-(2 ^ n)) with h | h
    · exfalso
      have a := Int.mul_le_mul_of_nonneg_right (show o ≤ -(2 ^ n) - 1 by omega) (Int.le_of_lt hp)
      have b := Int.mul_le_mul_of_nonneg_left e3 (Int.le_of_lt hP)
      rw [Int.sub_mul, Int.one_mul, Int.neg_mul] at a
      omega
    · exact h
  unfold inb
  generalize (4294967296 : Int) ^ 400 = c400 at *
  omega
theorem fin_xP {m x : Int} (h : (fin m x).e = 0) (hx : -2148 ≤ x) : -2148 ≤ (fin m x).d.x := by
  rcases fin_x h with h1 | h1
  · have := (fin_ok m x).2.1
    unfold can at this
    omega
  · omega
theorem fit_limP {j t : Int} (hj : j ≤ 256) (ht : t = 2056) : j * sc 1 2048 ≤ sc 1 t := by
  have h := sc_two 8 2048 (by omega)
  have h' : sc 1 t = 256 * sc 1 2048 := by
    rw [← sc_mul1, show (256 : Int) = 2 ^ 8 by decide, h, ht]; rfl
  rw [h']
  exact Int.mul_le_mul_of_nonneg_right hj (Int.le_of_lt (sc_one_pos _))
theorem fin_fitP {m x k : Int} (hx : -2148 ≤ x) (hk : k ≤ 256) (h1 : sc m x ≤ k * sc 1 2048) (h2 : -(k * sc 1 2048) ≤ sc m x) : (fin m x).e = 0 := by
  obtain ⟨t, ht⟩ : ∃ t : Int, t = 2056 := ⟨_, rfl⟩
  have hl := fit_limP hk ht
  by_cases h0 : m = 0
  · subst h0; rw [fin_zero]
  · obtain ⟨o, o1, o2⟩ := tz_spec h0
    rw [fin_of o1 o2]
    have e := sc_shift o x (tz m) (by omega)
    rw [← o1] at e
    rw [e] at h1 h2
    have hi := inb_fitP (o := o) (x := x + tz m) ht (odd_ne o2) (by omega) (by omega) (by omega)
    rw [if_pos hi]
theorem add_fitP {a b : Dy} {j k : Int} (ha : FitP a j) (hb : FitP b k) (hk : j + k ≤ 256) : (DC.Add a b).e = 0 ∧ FitP (DC.Add a b).d (j + k) ∧ S (DC.Add a b).d = S a + S b := by
  have he : ee a.er b.er = 0 := ee0.2 ⟨ha.ok.1, hb.ok.1⟩
  have x1 := ha.x
  have x2 := hb.x
  have h1 := ha.hi
  have h2 := ha.lo
  have h3 := hb.hi
  have h4 := hb.lo
  have e1 : sc (lv2 a b + lv2 b a) (min a.x b.x) = S a + S b := by
    rw [sc_add, sc_lv2 a b (by omega)]
    have := sc_lv2 b a (by omega)
    rw [Int.min_comm b.x a.x] at this
    rw [this]; rfl
  have e2 : (j + k) * sc 1 2048 = j * sc 1 2048 + k * sc 1 2048 := Int.add_mul _ _ _
  have e0 : (DC.Add a b).e = 0 := by
    unfold DC.Add
    rw [if_neg (by simpa using he)]
    unfold sum
    exact fin_fitP (k := j + k) (by omega) hk (by rw [e1, e2]; omega) (by rw [e1, e2]; omega)
  have hS := (add_ok e0 (fun _ => ha.ok) (fun _ => hb.ok)).2.2
  refine ⟨e0, ⟨add_good a b, ?_, by rw [hS, e2]; omega, by rw [hS, e2]; omega⟩, hS⟩
  unfold DC.Add at e0 ⊢
  rw [if_neg (by simpa using he)] at e0 ⊢
  unfold sum at e0 ⊢
  exact fin_xP e0 (by omega)
theorem fitP_zero : FitP dz 0 := by
  have e : S dz = 0 := sc_zero.2 rfl
  refine ⟨ok_dz, by decide, ?_, ?_⟩ <;> rw [e] <;> omega
theorem fitP_mono {d : Dy} {j k : Int} (h : FitP d j) (hk : j ≤ k) : FitP d k := by
  have := Int.mul_le_mul_of_nonneg_right hk (Int.le_of_lt (sc_one_pos 2048))
  exact ⟨h.ok, h.x, Int.le_trans h.hi this, by have := h.lo; omega⟩
theorem fitP_of {d : Dy} (h : Fit d 1) : FitP d 1 := by
  have := sc1_le (x := 1024) (y := 2048) (by omega) (by omega)
  have h1 := h.hi
  have h2 := h.lo
  exact ⟨h.ok, by have := h.x; omega, by omega, by omega⟩
theorem prod_le {a b B : Int} (hB : 0 ≤ B) (a1 : a ≤ B) (a2 : -B ≤ a) (b1 : b ≤ B) (b2 : -B ≤ b) : a * b ≤ B * B ∧ -(B * B) ≤ a * b := by
  have h : (a * b).natAbs ≤ (B * B).natAbs := by
    rw [Int.natAbs_mul, Int.natAbs_mul]
    exact Nat.mul_le_mul (by omega) (by omega)
  have : 0 ≤ B * B := Int.mul_nonneg hB hB
  omega
theorem mul_fit {a b : Dy} (ha : Fit a 1) (hb : Fit b 1) {K : Nat} (hK : K = 60000) : (DC.Mul a b).e = 0 ∧ FitP (DC.Mul a b).d 1 ∧ S (DC.Mul a b).d * 2 ^ K = S a * S b := by
  have he : ee a.er b.er = 0 := ee0.2 ⟨ha.ok.1, hb.ok.1⟩
  have x1 := ha.x
  have x2 := hb.x
  have e1 := sc_mul (m := a.m) (n := b.m) (x := a.x) (y := b.x) (by omega) (by omega) hK
  obtain ⟨u, hu⟩ : ∃ u : Int, u = 1024 := ⟨_, rfl⟩
  have e2 := sc_mul (m := 1) (n := 1) (x := u) (y := u) (by omega) (by omega) hK
  rw [Int.one_mul] at e2
  have hp := sc_one_pos u
  have h1 := ha.hi
  have h2 := ha.lo
  have h3 := hb.hi
  have h4 := hb.lo
  rw [Int.one_mul, ← hu] at h1 h2 h3 h4
  have pl := prod_le (Int.le_of_lt hp) h1 h2 h3 h4
  have hP := two_pos' K
  have l1 : sc (a.m * b.m) (a.x + b.x) ≤ sc 1 (u + u) := by
    apply Int.le_of_mul_le_mul_right _ hP
    rw [e1, e2]; exact pl.1
  have l2 : -sc 1 (u + u) ≤ sc (a.m * b.m) (a.x + b.x) := by
    apply Int.le_of_mul_le_mul_right _ hP
    rw [Int.neg_mul, e1, e2]; exact pl.2
  have eu : sc 1 (u + u) = sc 1 2048 := by congr 1; omega
  rw [eu] at l1 l2
  have e0 : (DC.Mul a b).e = 0 := by
    unfold DC.Mul
    rw [if_neg (by simpa using he)]
    exact fin_fitP (k := 1) (by omega) (by omega) (by rw [Int.one_mul]; exact l1) (by rw [Int.one_mul]; exact l2)
  have hS := (mul_ok e0 (fun _ => ha.ok) (fun _ => hb.ok) hK).2.2
  have hS' : S (DC.Mul a b).d = sc (a.m * b.m) (a.x + b.x) := by
    apply Int.eq_of_mul_eq_mul_right (Int.ne_of_gt hP)
    rw [hS, e1]; rfl
  refine ⟨e0, ⟨mul_good' a b, ?_, by rw [hS', Int.one_mul]; exact l1, by rw [hS', Int.one_mul]; exact l2⟩, hS⟩
  unfold DC.Mul at e0 ⊢
  rw [if_neg (by simpa using he)] at e0 ⊢
  exact fin_xP e0 (by omega)
/-- the product of two numbers -/
def PD (x y : Int) : Re := if F.exq x = 2047 ∨ F.exq y = 2047 then ⟨4, dz⟩ else DC.Mul (OfD x).d (OfD y).d
theorem pd_p {x y : Int} (hx : fi x) (hy : fi y) {K : Nat} (hK : K = 60000) : (PD x y).e = 0 ∧ FitP (PD x y).d 1 ∧ S (PD x y).d * 2 ^ K = val x * val y := by
  unfold PD
  rw [if_neg (by have := hx.2.2; have := hy.2.2; omega)]
  exact mul_fit (of_fit hx).2 (of_fit hy).2 hK
theorem K_inj {a b : Int} {K : Nat} (h : a * 2 ^ K = b * 2 ^ K) : a = b := Int.eq_of_mul_eq_mul_right (Int.ne_of_gt (two_pos' K)) h
theorem pd_comm {x y : Int} (hx : fi x) (hy : fi y) : (PD x y).d = (PD y x).d := by
  obtain ⟨K, hK⟩ : ∃ K : Nat, K = 60000 := ⟨_, rfl⟩
  have a := pd_p hx hy hK
  have b := pd_p hy hx hK
  refine S_inj a.2.1.ok b.2.1.ok (K_inj (K := K) ?_)
  rw [a.2.2, b.2.2, Int.mul_comm]
theorem neg_ok {d : Dy} (h : Ok d) : Ok (neg d) := by
  obtain ⟨a, b, c⟩ := h
  refine ⟨a, ?_, ?_⟩
  · unfold can at *
    show (-d.m = 0 ∧ d.x = 0) ∨ -d.m % 2 = 1
    omega
  · unfold inb at *
    show -d.m < _ ∧ _ < -d.m ∧ -10000 ≤ d.x ∧ d.x ≤ 10000
    generalize (4294967296 : Int) ^ 400 = c400 at *
    omega
theorem pd_neg {x y : Int} (hx : fi x) (hy : fi y) : (PD (F.neg x) y).d = neg (PD x y).d := by
  obtain ⟨K, hK⟩ : ∃ K : Nat, K = 60000 := ⟨_, rfl⟩
  have a := pd_p (fi_neg hx) hy hK
  have b := pd_p hx hy hK
  refine S_inj a.2.1.ok (neg_ok b.2.1.ok) (K_inj (K := K) ?_)
  rw [a.2.2, S_neg, Int.neg_mul, b.2.2, val_neg hx, Int.neg_mul]
/-- the sign of a product, as bits -/
def sp (x y : Int) : Int := if F.sgn x = F.sgn y then 0 else 9223372036854775808
/-- what is told by classes -/
def bc (x y : Int) : Int × Bool :=
  if max (F.cls x) (F.cls y) = 5 ∨ (max (F.cls x) (F.cls y) = 4 ∧ min (F.cls x) (F.cls y) = 1) then (9221120237041090560, true)
  else if max (F.cls x) (F.cls y) = 4 then (sp x y + 9218868437227405312, true)
  else if min (F.cls x) (F.cls y) = 1 then (sp x y, true)
  else (0, false)
noncomputable def MT (x y mode : Int) : Int × Bool × Int :=
  if ¬ (0 ≤ mode ∧ mode ≤ 4) then (0, false, 1)
  else if (bc x y).2 = true then ((bc x y).1, false, 0)
  else (TX (PD x y).d mode, TL (PD x y).d mode, 0)
/-- the product and one more -/
def fd (x y z : Int) : Dy := (DC.Add (PD x y).d (OfD z).d).d
noncomputable def FT (x y z mode : Int) : Int × Bool × Int :=
  if ¬ (0 ≤ mode ∧ mode ≤ 4) then (0, false, 1)
  else if (bc x y).2 = true then AT [(bc x y).1, z] mode
  else if F.exq z = 2047 then AT [0, z] mode
  else if (fd x y z).m = 0 ∧ mode = 2 then (9223372036854775808, false, 0)
  else (TX (fd x y z) mode, TL (fd x y z) mode, 0)
theorem sp2 (x y : Int) : sp x y = 0 ∨ sp x y = 9223372036854775808 := by unfold sp; split <;> simp
theorem sp_comm (x y : Int) : sp x y = sp y x := by unfold sp; cases F.sgn x <;> cases F.sgn y <;> rfl
theorem sp_neg {x : Int} (hx : 0 ≤ x ∧ x ≤ 18446744073709551615) (y : Int) : sp (F.neg x) y = F.neg (sp x y) := by
  unfold sp
  rw [F.sgn_neg x hx.1 hx.2]
  cases F.sgn x <;> cases F.sgn y <;> decide
theorem sp_neg' {x : Int} (hx : 0 ≤ x ∧ x ≤ 18446744073709551615) (y : Int) : sp (F.neg x) y + 9218868437227405312 = F.neg (sp x y + 9218868437227405312) := by
  rw [sp_neg hx]
  rcases sp2 x y with h | h <;> rw [h] <;> decide
theorem bc_comm (x y : Int) : bc x y = bc y x := by
  unfold bc
  rw [Int.max_comm, Int.min_comm, sp_comm]
theorem cls1 {x : Int} (h0 : 0 ≤ x) (h1 : x ≤ 18446744073709551615) : F.cls x = 1 ↔ x = 0 ∨ x = 9223372036854775808 := by
  unfold F.cls F.exq F.fra
  constructor
  · intro h; repeat (first | omega | split at h)
  · rintro (rfl | rfl) <;> decide
theorem val00 : fi 0 ∧ val 0 = 0 := by
  have f0 : fi 0 := fi_of (by omega) (by omega) (by omega)
  refine ⟨f0, ?_⟩
  rw [val_eq f0, show (0 : Int) % 9223372036854775808 = 0 by decide, U_zero]; rfl
theorem val08 : fi 9223372036854775808 ∧ val 9223372036854775808 = 0 := by
  have f0 : fi 9223372036854775808 := fi_of (by omega) (by omega) (by omega)
  refine ⟨f0, ?_⟩
  rw [val_eq f0, show (9223372036854775808 : Int) % 9223372036854775808 = 0 by decide, U_zero]; rfl
theorem val0 {x : Int} (h : fi x) : val x = 0 ↔ F.cls x = 1 := by
  rw [cls1 h.1 h.2.1]
  constructor
  · exact val_zero h
  · rintro (rfl | rfl)
    · exact val00.2
    · exact val08.2
theorem fi_cls {x : Int} (hx : 0 ≤ x ∧ x ≤ 18446744073709551615) : fi x ↔ F.cls x ≤ 3 := by
  have := F.cls_bd x
  have := cls_fi (x := x)
  constructor
  · intro h; have := this.2 h.2.2; omega
  · intro h; exact ⟨hx.1, hx.2, this.1 (by omega)⟩
theorem bc_no {x y : Int} (hx : 0 ≤ x ∧ x ≤ 18446744073709551615) (hy : 0 ≤ y ∧ y ≤ 18446744073709551615) : (bc x y).2 = false ↔ fi x ∧ fi y ∧ val x ≠ 0 ∧ val y ≠ 0 := by
  have a := F.cls_bd x
  have b := F.cls_bd y
  have e : (bc x y).2 = false ↔ (F.cls x ≤ 3 ∧ F.cls y ≤ 3 ∧ F.cls x ≠ 1 ∧ F.cls y ≠ 1) := by
    unfold bc
    by_cases h1 : max (F.cls x) (F.cls y) = 5 ∨ (max (F.cls x) (F.cls y) = 4 ∧ min (F.cls x) (F.cls y) = 1)
    · rw [if_pos h1]; simp; omega
    · rw [if_neg h1]
      by_cases h2 : max (F.cls x) (F.cls y) = 4
      · rw [if_pos h2]; simp; omega
      · rw [if_neg h2]
        by_cases h3 : min (F.cls x) (F.cls y) = 1
        · rw [if_pos h3]; simp; omega
        · rw [if_neg h3]; simp; omega
  rw [e]
  constructor
  · rintro ⟨h1, h2, h3, h4⟩
    have f := (fi_cls hx).2 h1
    have g := (fi_cls hy).2 h2
    exact ⟨f, g, fun h => h3 ((val0 f).1 h), fun h => h4 ((val0 g).1 h)⟩
  · rintro ⟨f, g, h3, h4⟩
    exact ⟨(fi_cls hx).1 f, (fi_cls hy).1 g, fun h => h3 ((val0 f).2 h), fun h => h4 ((val0 g).2 h)⟩
theorem MT_no {x y mode : Int} (h : ¬ (0 ≤ mode ∧ mode ≤ 4)) : MT x y mode = (0, false, 1) := by unfold MT; rw [if_pos h]
theorem MT_bc {x y mode : Int} (hm : 0 ≤ mode ∧ mode ≤ 4) (h : (bc x y).2 = true) : MT x y mode = ((bc x y).1, false, 0) := by
  unfold MT; rw [if_neg (by simpa using hm), if_pos h]
theorem MT_fi {x y mode : Int} (hm : 0 ≤ mode ∧ mode ≤ 4) (h : (bc x y).2 = false) : MT x y mode = (TX (PD x y).d mode, TL (PD x y).d mode, 0) := by
  unfold MT; rw [if_neg (by simpa using hm), if_neg (by rw [h]; simp)]
theorem MT_ok {x y mode : Int} (hm : 0 ≤ mode ∧ mode ≤ 4) : ∃ a b, MT x y mode = (a, b, 0) := by
  cases h : (bc x y).2
  · exact ⟨_, _, MT_fi hm h⟩
  · exact ⟨_, _, MT_bc hm h⟩
theorem bc_bd (x y : Int) : 0 ≤ (bc x y).1 ∧ (bc x y).1 ≤ 18446744073709551615 := by
  unfold bc
  rcases sp2 x y with h | h <;> rw [h] <;> (repeat (first | split | simp))
theorem MT_bd {x y : Int} (mode : Int) (hx : 0 ≤ x ∧ x ≤ 18446744073709551615) (hy : 0 ≤ y ∧ y ≤ 18446744073709551615) : 0 ≤ (MT x y mode).1 ∧ (MT x y mode).1 ≤ 18446744073709551615 := by
  by_cases hm : 0 ≤ mode ∧ mode ≤ 4
  · cases h : (bc x y).2
    · rw [MT_fi hm h]
      obtain ⟨f, g, -⟩ := (bc_no hx hy).1 h
      have := TX_bd (PD x y).d mode fun _ => (pd_p f g rfl).2.1.ok
      exact ⟨this.1, this.2.1⟩
    · rw [MT_bc hm h]; exact bc_bd x y
  · rw [MT_no hm]; exact ⟨by simp, by simp⟩
theorem MT_comm {x y mode : Int} (hx : 0 ≤ x ∧ x ≤ 18446744073709551615) (hy : 0 ≤ y ∧ y ≤ 18446744073709551615) : MT x y mode = MT y x mode := by
  by_cases hm : 0 ≤ mode ∧ mode ≤ 4
  · cases h : (bc x y).2
    · have h' := h
      rw [bc_comm] at h'
      obtain ⟨f, g, -⟩ := (bc_no hx hy).1 h
      rw [MT_fi hm h, MT_fi hm h', pd_comm f g]
    · have h' := h
      rw [bc_comm] at h'
      rw [MT_bc hm h, MT_bc hm h', bc_comm]
  · rw [MT_no hm, MT_no hm]
end PC
end Go.Proofs.YtpmjeipdldnnbaaDoor
