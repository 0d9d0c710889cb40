/-
  Texts glued together for a claim: P1 P2 P3 X3 X4.
-/
import Derived.Test.YtejglcpiihkenaaGreatDoorF11
import Derived.Test.YtejglcpiihkenaaGreatDoorF8
/-
  Package prod, pure: products of numbers, their values; what Mul, Fma and Dot tell.
-/
namespace Go.Proofs.YtejglcpiihkenaaGreatDoor
set_option linter.unusedVariables false
set_option linter.unusedSimpArgs false
open Go.RowKit
set_option linter.unusedVariables false
set_option linter.unusedSimpArgs false
namespace PC
open L NC NK DC RC SC
/-- what fits easily: sums of products -/
structure FitP (d : Dy) (k : Int) : Prop where
  ok : Ok d
  x : -2148 ≤ d.x
  hi : S d ≤ k * sc 1 2048
  lo : -(k * sc 1 2048) ≤ S d
theorem big_small' {n : Nat} (h : n = 4204) : (2 : Int) ^ n < 4294967296 ^ 400 := by
  have e : (4294967296 : Int) = 2 ^ 32 := by decide
  rw [e, ← Int.pow_mul]
  exact two_lt' (by omega)
theorem inb_fitP {o x t : Int} (ht : t = 2056) (ho : o ≠ 0) (hx : -2148 ≤ x) (h1 : sc o x ≤ sc 1 t) (h2 : -(sc 1 t) ≤ sc o x) : inb o x := by
  have hp := sc_one_pos x
  have e1 : sc o x = o * sc 1 x := sc_mul1 _ _
  have hxt : x ≤ t := by
    rcases Int.lt_or_le t x with h | h
    · exfalso
      have h3 : sc 1 t < sc 1 x := by
        have h4 := sc1_le (x := t + 1) (y := x) (by omega) (by omega)
        have h5 := sc_shift 1 t 1 (by omega)
        rw [show (1 : Int) * 2 ^ 1 = 2 by decide, show t + ((1 : Nat) : Int) = t + 1 by omega, sc_mul1] at h5
        have := sc_one_pos t
        omega
      rw [e1] at h1 h2
      generalize sc 1 x = E at *
      generalize sc 1 t = B at *
      rcases Int.lt_or_le o 0 with h | h
      · have := Int.mul_le_mul_of_nonneg_right (show o ≤ -1 by omega) (Int.le_of_lt hp)
        omega
      · have := Int.mul_le_mul_of_nonneg_right (show 1 ≤ o by omega) (Int.le_of_lt hp)
        omega
    · exact h
  obtain ⟨n, hn⟩ : ∃ n : Nat, n = 4204 := ⟨_, rfl⟩
  have e2 : sc 1 t = 2 ^ n * sc 1 (-2148) := by
    rw [← sc_mul1, sc_two n _ (by omega)]
    congr 1; omega
  have e3 := sc1_le (x := -2148) (y := x) (by omega) (by omega)
  have hq := sc_one_pos (-2148)
  have hb := big_small' hn
  rw [e1, e2] at h1 h2
  have hP := two_pos' n
  have hx2 : x ≤ 2056 := by omega
  clear e2 hn ht
  have l1 : o ≤ 2 ^ n := by
    rcases Int.lt_or_le (2 ^ n) o with h | h
    · exfalso
      have a := Int.mul_le_mul_of_nonneg_right (show 2 ^ n + 1 ≤ o by omega) (Int.le_of_lt hp)
      have b := Int.mul_le_mul_of_nonneg_left e3 (Int.le_of_lt hP)
      rw [Int.add_mul, Int.one_mul] at a
      omega
    · exact h
  have l2 : -(2 ^ n) ≤ o := by
    rcases Int.lt_or_le o (-(2 ^ n)) with h | h
    · exfalso
      have a := Int.mul_le_mul_of_nonneg_right (show o ≤ -(2 ^ n) - 1 by omega) (Int.le_of_lt hp)
      have b := Int.mul_le_mul_of_nonneg_left e3 (Int.le_of_lt hP)
      rw [Int.sub_mul, Int.one_mul, Int.neg_mul] at a
      omega
    · exact h
  unfold inb
  generalize (4294967296 : Int) ^ 400 = c400 at *
  omega
theorem fin_xP {m x : Int} (h : (fin m x).e = 0) (hx : -2148 ≤ x) : -2148 ≤ (fin m x).d.x := by
  rcases fin_x h with h1 | h1
  · have := (fin_ok m x).2.1
    unfold can at this
    omega
  · omega
theorem fit_limP {j t : Int} (hj : j ≤ 256) (ht : t = 2056) : j * sc 1 2048 ≤ sc 1 t := by
  have h := sc_two 8 2048 (by omega)
  have h' : sc 1 t = 256 * sc 1 2048 := by
    rw [← sc_mul1, show (256 : Int) = 2 ^ 8 by decide, h, ht]; rfl
  rw [h']
  exact Int.mul_le_mul_of_nonneg_right hj (Int.le_of_lt (sc_one_pos _))
theorem fin_fitP {m x k : Int} (hx : -2148 ≤ x) (hk : k ≤ 256) (h1 : sc m x ≤ k * sc 1 2048) (h2 : -(k * sc 1 2048) ≤ sc m x) : (fin m x).e = 0 := by
  obtain ⟨t, ht⟩ : ∃ t : Int, t = 2056 := ⟨_, rfl⟩
  have hl := fit_limP hk ht
  by_cases h0 : m = 0
  · subst h0; rw [fin_zero]
  · obtain ⟨o, o1, o2⟩ := tz_spec h0
    rw [fin_of o1 o2]
    have e := sc_shift o x (tz m) (by omega)
    rw [← o1] at e
    rw [e] at h1 h2
    have hi := inb_fitP (o := o) (x := x + tz m) ht (odd_ne o2) (by omega) (by omega) (by omega)
    rw [if_pos hi]
theorem add_fitP {a b : Dy} {j k : Int} (ha : FitP a j) (hb : FitP b k) (hk : j + k ≤ 256) : (DC.Add a b).e = 0 ∧ FitP (DC.Add a b).d (j + k) ∧ S (DC.Add a b).d = S a + S b := by
  have he : ee a.er b.er = 0 := ee0.2 ⟨ha.ok.1, hb.ok.1⟩
  have x1 := ha.x
  have x2 := hb.x
  have h1 := ha.hi
  have h2 := ha.lo
  have h3 := hb.hi
  have h4 := hb.lo
  have e1 : sc (lv2 a b + lv2 b a) (min a.x b.x) = S a + S b := by
    rw [sc_add, sc_lv2 a b (by omega)]
    have := sc_lv2 b a (by omega)
    rw [Int.min_comm b.x a.x] at this
    rw [this]; rfl
  have e2 : (j + k) * sc 1 2048 = j * sc 1 2048 + k * sc 1 2048 := Int.add_mul _ _ _
  have e0 : (DC.Add a b).e = 0 := by
    unfold DC.Add
    rw [if_neg (by simpa using he)]
    unfold sum
    exact fin_fitP (k := j + k) (by omega) hk (by rw [e1, e2]; omega) (by rw [e1, e2]; omega)
  have hS := (add_ok e0 (fun _ => ha.ok) (fun _ => hb.ok)).2.2
  refine ⟨e0, ⟨add_good a b, ?_, by rw [hS, e2]; omega, by rw [hS, e2]; omega⟩, hS⟩
  unfold DC.Add at e0 ⊢
  rw [if_neg (by simpa using he)] at e0 ⊢
  unfold sum at e0 ⊢
  exact fin_xP e0 (by omega)
theorem fitP_zero : FitP dz 0 := by
  have e : S dz = 0 := sc_zero.2 rfl
  refine ⟨ok_dz, by decide, ?_, ?_⟩ <;> rw [e] <;> omega
theorem fitP_mono {d : Dy} {j k : Int} (h : FitP d j) (hk : j ≤ k) : FitP d k := by
  have := Int.mul_le_mul_of_nonneg_right hk (Int.le_of_lt (sc_one_pos 2048))
  exact ⟨h.ok, h.x, Int.le_trans h.hi this, by have := h.lo; omega⟩
theorem fitP_of {d : Dy} (h : Fit d 1) : FitP d 1 := by
  have := sc1_le (x := 1024) (y := 2048) (by omega) (by omega)
  have h1 := h.hi
  have h2 := h.lo
  exact ⟨h.ok, by have := h.x; omega, by omega, by omega⟩
theorem prod_le {a b B : Int} (hB : 0 ≤ B) (a1 : a ≤ B) (a2 : -B ≤ a) (b1 : b ≤ B) (b2 : -B ≤ b) : a * b ≤ B * B ∧ -(B * B) ≤ a * b := by
  have h : (a * b).natAbs ≤ (B * B).natAbs := by
    rw [Int.natAbs_mul, Int.natAbs_mul]
    exact Nat.mul_le_mul (by omega) (by omega)
  have : 0 ≤ B * B := Int.mul_nonneg hB hB
  omega
theorem mul_fit {a b : Dy} (ha : Fit a 1) (hb : Fit b 1) {K : Nat} (hK : K = 60000) : (DC.Mul a b).e = 0 ∧ FitP (DC.Mul a b).d 1 ∧ S (DC.Mul a b).d * 2 ^ K = S a * S b := by
  have he : ee a.er b.er = 0 := ee0.2 ⟨ha.ok.1, hb.ok.1⟩
  have x1 := ha.x
  have x2 := hb.x
  have e1 := sc_mul (m := a.m) (n := b.m) (x := a.x) (y := b.x) (by omega) (by omega) hK
  obtain ⟨u, hu⟩ : ∃ u : Int, u = 1024 := ⟨_, rfl⟩
  have e2 := sc_mul (m := 1) (n := 1) (x := u) (y := u) (by omega) (by omega) hK
  rw [Int.one_mul] at e2
  have hp := sc_one_pos u
  have h1 := ha.hi
  have h2 := ha.lo
  have h3 := hb.hi
  have h4 := hb.lo
  rw [Int.one_mul, ← hu] at h1 h2 h3 h4
  have pl := prod_le (Int.le_of_lt hp) h1 h2 h3 h4
  have hP := two_pos' K
  have l1 : sc (a.m * b.m) (a.x + b.x) ≤ sc 1 (u + u) := by
    apply Int.le_of_mul_le_mul_right _ hP
    rw [e1, e2]; exact pl.1
  have l2 : -sc 1 (u + u) ≤ sc (a.m * b.m) (a.x + b.x) := by
    apply Int.le_of_mul_le_mul_right _ hP
    rw [Int.neg_mul, e1, e2]; exact pl.2
  have eu : sc 1 (u + u) = sc 1 2048 := by congr 1; omega
  rw [eu] at l1 l2
  have e0 : (DC.Mul a b).e = 0 := by
    unfold DC.Mul
    rw [if_neg (by simpa using he)]
    exact fin_fitP (k := 1) (by omega) (by omega) (by rw [Int.one_mul]; exact l1) (by rw [Int.one_mul]; exact l2)
  have hS := (mul_ok e0 (fun _ => ha.ok) (fun _ => hb.ok) hK).2.2
  have hS' : S (DC.Mul a b).d = sc (a.m * b.m) (a.x + b.x) := by
    apply Int.eq_of_mul_eq_mul_right (Int.ne_of_gt hP)
    rw [hS, e1]; rfl
  refine ⟨e0, ⟨mul_good' a b, ?_, by rw [hS', Int.one_mul]; exact l1, by rw [hS', Int.one_mul]; exact l2⟩, hS⟩
  unfold DC.Mul at e0 ⊢
  rw [if_neg (by simpa using he)] at e0 ⊢
  exact fin_xP e0 (by omega)
/-- the product of two numbers -/
def PD (x y : Int) : Re := if F.exq x = 2047 ∨ F.exq y = 2047 then ⟨4, dz⟩ else DC.Mul (OfD x).d (OfD y).d
theorem pd_p {x y : Int} (hx : fi x) (hy : fi y) {K : Nat} (hK : K = 60000) : (PD x y).e = 0 ∧ FitP (PD x y).d 1 ∧ S (PD x y).d * 2 ^ K = val x * val y := by
  unfold PD
  rw [if_neg (by have := hx.2.2; have := hy.2.2; omega)]
  exact mul_fit (of_fit hx).2 (of_fit hy).2 hK
theorem K_inj {a b : Int} {K : Nat} (h : a * 2 ^ K = b * 2 ^ K) : a = b := Int.eq_of_mul_eq_mul_right (Int.ne_of_gt (two_pos' K)) h
theorem pd_comm {x y : Int} (hx : fi x) (hy : fi y) : (PD x y).d = (PD y x).d := by
  obtain ⟨K, hK⟩ : ∃ K : Nat, K = 60000 := ⟨_, rfl⟩
  have a := pd_p hx hy hK
  have b := pd_p hy hx hK
  refine S_inj a.2.1.ok b.2.1.ok (K_inj (K := K) ?_)
  rw [a.2.2, b.2.2, Int.mul_comm]
theorem neg_ok {d : Dy} (h : Ok d) : Ok (neg d) := by
  obtain ⟨a, b, c⟩ := h
  refine ⟨a, ?_, ?_⟩
  · unfold can at *
    show (-d.m = 0 ∧ d.x = 0) ∨ -d.m % 2 = 1
    omega
  · unfold inb at *
    show -d.m < _ ∧ _ < -d.m ∧ -10000 ≤ d.x ∧ d.x ≤ 10000
    generalize (4294967296 : Int) ^ 400 = c400 at *
    omega
theorem pd_neg {x y : Int} (hx : fi x) (hy : fi y) : (PD (F.neg x) y).d = neg (PD x y).d := by
  obtain ⟨K, hK⟩ : ∃ K : Nat, K = 60000 := ⟨_, rfl⟩
  have a := pd_p (fi_neg hx) hy hK
  have b := pd_p hx hy hK
  refine S_inj a.2.1.ok (neg_ok b.2.1.ok) (K_inj (K := K) ?_)
  rw [a.2.2, S_neg, Int.neg_mul, b.2.2, val_neg hx, Int.neg_mul]
/-- the sign of a product, as bits -/
def sp (x y : Int) : Int := if F.sgn x = F.sgn y then 0 else 9223372036854775808
/-- what is told by classes -/
def bc (x y : Int) : Int × Bool :=
  if max (F.cls x) (F.cls y) = 5 ∨ (max (F.cls x) (F.cls y) = 4 ∧ min (F.cls x) (F.cls y) = 1) then (9221120237041090560, true)
  else if max (F.cls x) (F.cls y) = 4 then (sp x y + 9218868437227405312, true)
  else if min (F.cls x) (F.cls y) = 1 then (sp x y, true)
  else (0, false)
noncomputable def MT (x y mode : Int) : Int × Bool × Int :=
  if ¬ (0 ≤ mode ∧ mode ≤ 4) then (0, false, 1)
  else if (bc x y).2 = true then ((bc x y).1, false, 0)
  else (TX (PD x y).d mode, TL (PD x y).d mode, 0)
/-- the product and one more -/
def fd (x y z : Int) : Dy := (DC.Add (PD x y).d (OfD z).d).d
noncomputable def FT (x y z mode : Int) : Int × Bool × Int :=
  if ¬ (0 ≤ mode ∧ mode ≤ 4) then (0, false, 1)
  else if (bc x y).2 = true then AT [(bc x y).1, z] mode
  else if F.exq z = 2047 then AT [0, z] mode
  else if (fd x y z).m = 0 ∧ mode = 2 then (9223372036854775808, false, 0)
  else (TX (fd x y z) mode, TL (fd x y z) mode, 0)
theorem sp2 (x y : Int) : sp x y = 0 ∨ sp x y = 9223372036854775808 := by unfold sp; split <;> simp
theorem sp_comm (x y : Int) : sp x y = sp y x := by unfold sp; cases F.sgn x <;> cases F.sgn y <;> rfl
theorem sp_neg {x : Int} (hx : 0 ≤ x ∧ x ≤ 18446744073709551615) (y : Int) : sp (F.neg x) y = F.neg (sp x y) := by
  unfold sp
  rw [F.sgn_neg x hx.1 hx.2]
  cases F.sgn x <;> cases F.sgn y <;> decide
theorem sp_neg' {x : Int} (hx : 0 ≤ x ∧ x ≤ 18446744073709551615) (y : Int) : sp (F.neg x) y + 9218868437227405312 = F.neg (sp x y + 9218868437227405312) := by
  rw [sp_neg hx]
  rcases sp2 x y with h | h <;> rw [h] <;> decide
theorem bc_comm (x y : Int) : bc x y = bc y x := by
  unfold bc
  rw [Int.max_comm, Int.min_comm, sp_comm]
theorem cls1 {x : Int} (h0 : 0 ≤ x) (h1 : x ≤ 18446744073709551615) : F.cls x = 1 ↔ x = 0 ∨ x = 9223372036854775808 := by
  unfold F.cls F.exq F.fra
  constructor
  · intro h; repeat (first | omega | split at h)
  · rintro (rfl | rfl) <;> decide
theorem val00 : fi 0 ∧ val 0 = 0 := by
  have f0 : fi 0 := fi_of (by omega) (by omega) (by omega)
  refine ⟨f0, ?_⟩
  rw [val_eq f0, show (0 : Int) % 9223372036854775808 = 0 by decide, U_zero]; rfl
theorem val08 : fi 9223372036854775808 ∧ val 9223372036854775808 = 0 := by
  have f0 : fi 9223372036854775808 := fi_of (by omega) (by omega) (by omega)
  refine ⟨f0, ?_⟩
  rw [val_eq f0, show (9223372036854775808 : Int) % 9223372036854775808 = 0 by decide, U_zero]; rfl
theorem val0 {x : Int} (h : fi x) : val x = 0 ↔ F.cls x = 1 := by
  rw [cls1 h.1 h.2.1]
  constructor
  · exact val_zero h
  · rintro (rfl | rfl)
    · exact val00.2
    · exact val08.2
theorem fi_cls {x : Int} (hx : 0 ≤ x ∧ x ≤ 18446744073709551615) : fi x ↔ F.cls x ≤ 3 := by
  have := F.cls_bd x
  have := cls_fi (x := x)
  constructor
  · intro h; have := this.2 h.2.2; omega
  · intro h; exact ⟨hx.1, hx.2, this.1 (by omega)⟩
theorem bc_no {x y : Int} (hx : 0 ≤ x ∧ x ≤ 18446744073709551615) (hy : 0 ≤ y ∧ y ≤ 18446744073709551615) : (bc x y).2 = false ↔ fi x ∧ fi y ∧ val x ≠ 0 ∧ val y ≠ 0 := by
  have a := F.cls_bd x
  have b := F.cls_bd y
  have e : (bc x y).2 = false ↔ (F.cls x ≤ 3 ∧ F.cls y ≤ 3 ∧ F.cls x ≠ 1 ∧ F.cls y ≠ 1) := by
    unfold bc
    by_cases h1 : max (F.cls x) (F.cls y) = 5 ∨ (max (F.cls x) (F.cls y) = 4 ∧ min (F.cls x) (F.cls y) = 1)
    · rw [if_pos h1]; simp; omega
    · rw [if_neg h1]
      by_cases h2 : max (F.cls x) (F.cls y) = 4
      · rw [if_pos h2]; simp; omega
      · rw [if_neg h2]
        by_cases h3 : min (F.cls x) (F.cls y) = 1
        · rw [if_pos h3]; simp; omega
        · rw [if_neg h3]; simp; omega
  rw [e]
  constructor
  · rintro ⟨h1, h2, h3, h4⟩
    have f := (fi_cls hx).2 h1
    have g := (fi_cls hy).2 h2
    exact ⟨f, g, fun h => h3 ((val0 f).1 h), fun h => h4 ((val0 g).1 h)⟩
  · rintro ⟨f, g, h3, h4⟩
    exact ⟨(fi_cls hx).1 f, (fi_cls hy).1 g, fun h => h3 ((val0 f).2 h), fun h => h4 ((val0 g).2 h)⟩
theorem MT_no {x y mode : Int} (h : ¬ (0 ≤ mode ∧ mode ≤ 4)) : MT x y mode = (0, false, 1) := by unfold MT; rw [if_pos h]
theorem MT_bc {x y mode : Int} (hm : 0 ≤ mode ∧ mode ≤ 4) (h : (bc x y).2 = true) : MT x y mode = ((bc x y).1, false, 0) := by
  unfold MT; rw [if_neg (by simpa using hm), if_pos h]
theorem MT_fi {x y mode : Int} (hm : 0 ≤ mode ∧ mode ≤ 4) (h : (bc x y).2 = false) : MT x y mode = (TX (PD x y).d mode, TL (PD x y).d mode, 0) := by
  unfold MT; rw [if_neg (by simpa using hm), if_neg (by rw [h]; simp)]
theorem MT_ok {x y mode : Int} (hm : 0 ≤ mode ∧ mode ≤ 4) : ∃ a b, MT x y mode = (a, b, 0) := by
  cases h : (bc x y).2
  · exact ⟨_, _, MT_fi hm h⟩
  · exact ⟨_, _, MT_bc hm h⟩
theorem bc_bd (x y : Int) : 0 ≤ (bc x y).1 ∧ (bc x y).1 ≤ 18446744073709551615 := by
  unfold bc
  rcases sp2 x y with h | h <;> rw [h] <;> (repeat (first | split | simp))
theorem MT_bd {x y : Int} (mode : Int) (hx : 0 ≤ x ∧ x ≤ 18446744073709551615) (hy : 0 ≤ y ∧ y ≤ 18446744073709551615) : 0 ≤ (MT x y mode).1 ∧ (MT x y mode).1 ≤ 18446744073709551615 := by
  by_cases hm : 0 ≤ mode ∧ mode ≤ 4
  · cases h : (bc x y).2
    · rw [MT_fi hm h]
      obtain ⟨f, g, -⟩ := (bc_no hx hy).1 h
      have := TX_bd (PD x y).d mode fun _ => (pd_p f g rfl).2.1.ok
      exact ⟨this.1, this.2.1⟩
    · rw [MT_bc hm h]; exact bc_bd x y
  · rw [MT_no hm]; exact ⟨by simp, by simp⟩
theorem MT_comm {x y mode : Int} (hx : 0 ≤ x ∧ x ≤ 18446744073709551615) (hy : 0 ≤ y ∧ y ≤ 18446744073709551615) : MT x y mode = MT y x mode := by
  by_cases hm : 0 ≤ mode ∧ mode ≤ 4
  · cases h : (bc x y).2
    · have h' := h
      rw [bc_comm] at h'
      obtain ⟨f, g, -⟩ := (bc_no hx hy).1 h
      rw [MT_fi hm h, MT_fi hm h', pd_comm f g]
    · have h' := h
      rw [bc_comm] at h'
      rw [MT_bc hm h, MT_bc hm h', bc_comm]
  · rw [MT_no hm, MT_no hm]
end PC
end Go.Proofs.YtejglcpiihkenaaGreatDoor

/-
  Package prod, pure: one; turned; in order; powers of two; what is exact.
-/
namespace Go.Proofs.YtejglcpiihkenaaGreatDoor
set_option linter.unusedVariables false
set_option linter.unusedSimpArgs false
open Go.RowKit
set_option linter.unusedVariables false
set_option linter.unusedSimpArgs false
namespace PC
open L NC NK DC RC SC
/-- a power of two as a number -/
theorem pow_val {p k : Int} (hk : -1022 ≤ k) (hk' : k ≤ 1023) (hp : p = (1023 + k) * 4503599627370496) : fi p ∧ val p = sc 1 k ∧ F.sgn p = false ∧ F.cls p = 3 := by
  have fp : fi p := fi_of (by omega) (by omega) (by omega)
  obtain ⟨j, hj⟩ : ∃ j : Nat, (j : Int) = 1022 + k := ⟨(1022 + k).toNat, by omega⟩
  have u := (U_of (k := j) (q := 4503599627370496) (by omega) (by omega) (by omega)).1
  rw [show (j : Int) * 4503599627370496 + 4503599627370496 = p by omega] at u
  have hs : F.sgn p = false := F.sgn_f (by omega)
  refine ⟨fp, ?_, hs, ?_⟩
  · rw [val_eq fp, hs, show p % 9223372036854775808 = p by omega, u]
    unfold sgm
    rw [← sc_mul1, show (4503599627370496 : Int) = 2 ^ 52 by decide, sc_two 52 _ (by omega)]
    simp
    congr 1; omega
  · unfold F.cls F.exq
    rw [if_neg (by omega), if_pos (by omega)]
theorem one_val {O : Int} (hO : O = 4607182418800017408) {K : Nat} (hK : K = 60000) : fi O ∧ val O = 2 ^ K ∧ F.sgn O = false ∧ F.cls O = 3 := by
  have h := pow_val (p := O) (k := 0) (by omega) (by omega) (by omega)
  refine ⟨h.1, ?_, h.2.2⟩
  rw [h.2.1]
  unfold sc
  rw [Int.one_mul]
  congr 1; omega
theorem pd_one {x O : Int} (hx : fi x) (hO : O = 4607182418800017408) : (PD x O).d = (OfD x).d := by
  obtain ⟨K, hK⟩ : ∃ K : Nat, K = 60000 := ⟨_, rfl⟩
  have o := one_val hO hK
  have a := pd_p hx o.1 hK
  have b := of_fit hx
  refine S_inj a.2.1.ok b.2.ok (K_inj (K := K) ?_)
  rw [a.2.2, o.2.1]; rfl
theorem bc_one {x O : Int} (hx : 0 ≤ x ∧ x ≤ 18446744073709551615) (hO : O = 4607182418800017408) : bc x O = if F.cls x = 5 then (9221120237041090560, true) else if F.cls x = 4 ∨ F.cls x = 1 then (x, true) else (0, false) := by
  obtain ⟨K, hK⟩ : ∃ K : Nat, K = 60000 := ⟨_, rfl⟩
  have o := one_val hO hK
  have a := F.cls_bd x
  have ci := cls_inf hx.1 hx.2
  have c1 := cls1 hx.1 hx.2
  have es : sp x O = if F.sgn x = false then 0 else 9223372036854775808 := by unfold sp; rw [o.2.2.1]
  unfold bc
  rw [o.2.2.2, es]
  by_cases h5 : F.cls x = 5
  · rw [if_pos (by omega), if_pos h5]
  · rw [if_neg (by omega), if_neg h5]
    by_cases h4 : F.cls x = 4
    · rw [if_pos (by omega), if_pos (show F.cls x = 4 ∨ F.cls x = 1 from .inl h4)]
      rcases ci.1 h4 with rfl | rfl
      · simp [F.sgn]
      · simp [F.sgn]
    · rw [if_neg (by omega)]
      by_cases h1 : F.cls x = 1
      · rw [if_pos (by omega), if_pos (show F.cls x = 4 ∨ F.cls x = 1 from .inr h1)]
        rcases c1.1 h1 with rfl | rfl
        · simp [F.sgn]
        · simp [F.sgn]
      · rw [if_neg (by omega), if_neg (by omega)]
theorem MT_one {x mode O : Int} (hm : 0 ≤ mode ∧ mode ≤ 4) (hx : 0 ≤ x ∧ x ≤ 18446744073709551615) (hO : O = 4607182418800017408) : MT x O mode = (if F.cls x = 5 then 9221120237041090560 else x, false, 0) := by
  obtain ⟨K, hK⟩ : ∃ K : Nat, K = 60000 := ⟨_, rfl⟩
  have o := one_val hO hK
  have e := bc_one hx hO
  cases h : (bc x O).2
  · rw [MT_fi hm h]
    obtain ⟨f, -, h0, -⟩ := (bc_no hx ⟨o.1.1, o.1.2.1⟩).1 h
    have s := same_p f.1 f.2.1 f.2.2 hm
    have h5 : F.cls x ≠ 5 := (cls_fi.2 f.2.2).1
    rw [pd_one f hO, if_neg h5, s.2.1]
    rcases s.2.2 with h1 | ⟨-, rfl, -⟩
    · rw [eq_of_beq h1]
    · exact absurd val08.2 h0
  · rw [MT_bc hm h, e]
    rw [e] at h
    by_cases h5 : F.cls x = 5
    · rw [if_pos h5, if_pos h5]
    · rw [if_neg h5] at h ⊢
      rw [if_neg h5]
      by_cases h4 : F.cls x = 4 ∨ F.cls x = 1
      · rw [if_pos h4]
      · rw [if_neg h4] at h; cases h
theorem S_m' {d : Dy} : d.m = 0 ↔ S d = 0 := sc_zero.symm
theorem pd_ne {x y : Int} (hx : fi x) (hy : fi y) (h0 : val x ≠ 0) (h1 : val y ≠ 0) : (PD x y).d.m ≠ 0 := by
  obtain ⟨K, hK⟩ : ∃ K : Nat, K = 60000 := ⟨_, rfl⟩
  have a := pd_p hx hy hK
  intro h
  rw [S_m'] at h
  rw [h, Int.zero_mul] at a
  rcases Int.mul_eq_zero.1 a.2.2.symm with h2 | h2
  · exact h0 h2
  · exact h1 h2
theorem TX_cls {d : Dy} {mode : Int} (h : Ok d) : F.cls (TX d mode) ≠ 5 := cls_nn.2 (TX_bd d mode fun _ => h).2.2
/-- turned -/
theorem mul_turn {x y mode : Int} (hm : 0 ≤ mode ∧ mode ≤ 4) (hx : 0 ≤ x ∧ x ≤ 18446744073709551615) (hy : 0 ≤ y ∧ y ≤ 18446744073709551615) :
    ∃ a b g, MT x y mode = (a, b, 0) ∧ MT (F.neg x) y (tm mode) = (g, b, 0) ∧ ((F.cls a = 5 ∧ g = 9221120237041090560) ∨ (F.cls a ≠ 5 ∧ g = F.neg a)) := by
  have hm' : 0 ≤ tm mode ∧ tm mode ≤ 4 := by unfold tm; split; omega; split <;> omega
  have hx' := F.neg_bd x hx.1 hx.2
  have eb : bc (F.neg x) y = if max (F.cls x) (F.cls y) = 5 ∨ (max (F.cls x) (F.cls y) = 4 ∧ min (F.cls x) (F.cls y) = 1) then (9221120237041090560, true)
      else if max (F.cls x) (F.cls y) = 4 then (F.neg (sp x y + 9218868437227405312), true)
      else if min (F.cls x) (F.cls y) = 1 then (F.neg (sp x y), true) else (0, false) := by
    unfold bc
    rw [F.cls_neg, sp_neg' hx, sp_neg hx]
  have e0 : bc x y = if max (F.cls x) (F.cls y) = 5 ∨ (max (F.cls x) (F.cls y) = 4 ∧ min (F.cls x) (F.cls y) = 1) then (9221120237041090560, true)
      else if max (F.cls x) (F.cls y) = 4 then (sp x y + 9218868437227405312, true)
      else if min (F.cls x) (F.cls y) = 1 then (sp x y, true) else (0, false) := rfl
  by_cases h1 : max (F.cls x) (F.cls y) = 5 ∨ (max (F.cls x) (F.cls y) = 4 ∧ min (F.cls x) (F.cls y) = 1)
  · rw [if_pos h1] at eb e0
    rw [MT_bc hm (by rw [e0]), MT_bc hm' (by rw [eb]), e0, eb]
    exact ⟨_, _, _, rfl, rfl, .inl ⟨by decide, rfl⟩⟩
  · rw [if_neg h1] at eb e0
    by_cases h2 : max (F.cls x) (F.cls y) = 4
    · rw [if_pos h2] at eb e0
      rw [MT_bc hm (by rw [e0]), MT_bc hm' (by rw [eb]), e0, eb]
      refine ⟨_, _, _, rfl, rfl, .inr ⟨?_, rfl⟩⟩
      rcases sp2 x y with h | h <;> rw [h] <;> decide
    · rw [if_neg h2] at eb e0
      by_cases h3 : min (F.cls x) (F.cls y) = 1
      · rw [if_pos h3] at eb e0
        rw [MT_bc hm (by rw [e0]), MT_bc hm' (by rw [eb]), e0, eb]
        refine ⟨_, _, _, rfl, rfl, .inr ⟨?_, rfl⟩⟩
        rcases sp2 x y with h | h <;> rw [h] <;> decide
      · rw [if_neg h3] at eb e0
        have n1 : (bc x y).2 = false := by rw [e0]
        have n2 : (bc (F.neg x) y).2 = false := by rw [eb]
        obtain ⟨f, g, k0, k1⟩ := (bc_no hx hy).1 n1
        rw [MT_fi hm n1, MT_fi hm' n2, pd_neg f g]
        have a := (pd_p f g rfl).2.1.ok
        have t := turned_p a (pd_ne f g k0 k1) hm
        rw [t.2.2.1, t.2.2.2]
        exact ⟨_, _, _, rfl, rfl, .inr ⟨TX_cls a, rfl⟩⟩
/-- in order -/
theorem rnk0 {x : Int} (hx : fi x) (h : F.cls x = 1) : F.rnk x = 0 := by
  rcases (cls1 hx.1 hx.2.1).1 h with rfl | rfl <;> decide
theorem MT_rnk {x z mode : Int} (hm : 0 ≤ mode ∧ mode ≤ 4) (hx : fi x) (hz : fi z) : F.rnk (MT x z mode).1 = F.rnk (TX (PD x z).d mode) := by
  obtain ⟨K, hK⟩ : ∃ K : Nat, K = 60000 := ⟨_, rfl⟩
  have hx' := And.intro hx.1 hx.2.1
  have hz' := And.intro hz.1 hz.2.1
  cases h : (bc x z).2
  · rw [MT_fi hm h]
  · rw [MT_bc hm h]
    have a := pd_p hx hz hK
    have c1 := (fi_cls hx').1 hx
    have c2 := (fi_cls hz').1 hz
    have h3 : min (F.cls x) (F.cls z) = 1 := by
      rcases Classical.em (min (F.cls x) (F.cls z) = 1) with h3 | h3
      · exact h3
      · exfalso
        unfold bc at h
        rw [if_neg (by omega), if_neg (by omega), if_neg h3] at h
        cases h
    have e : bc x z = (sp x z, true) := by
      unfold bc
      rw [if_neg (by omega), if_neg (by omega), if_pos h3]
    have h0 : S (PD x z).d = 0 := by
      apply K_inj (K := K)
      rw [a.2.2, Int.zero_mul, Int.mul_eq_zero, val0 hx, val0 hz]
      omega
    rw [e, TX_zero hm a.2.1.ok h0]
    show F.rnk (sp x z) = 0
    rcases sp2 x z with h | h <;> rw [h] <;> decide
theorem order_mul {x y z mode : Int} (hm : 0 ≤ mode ∧ mode ≤ 4) (hx : 0 ≤ x ∧ x ≤ 18446744073709551615) (hy : 0 ≤ y ∧ y ≤ 18446744073709551615) (hz : 0 ≤ z ∧ z ≤ 18446744073709551615) (nx : F.nn x) (ny : F.nn y) (nz : F.nn z) (h : F.rnk x ≤ F.rnk y) (h0 : 0 ≤ F.rnk z)
    (na : F.nn (MT x z mode).1) (nb : F.nn (MT y z mode).1) : F.rnk (MT x z mode).1 ≤ F.rnk (MT y z mode).1 := by
  have c5 : F.cls (9221120237041090560 : Int) = 5 := by decide
  have l1 := rnk_lim (MT_bd mode hx hz) na
  have l2 := rnk_lim (MT_bd mode hy hz) nb
  have kk : ∀ a : Int, 0 ≤ a ∧ a ≤ 18446744073709551615 → F.nn a → fi a ∨ a = 9218868437227405312 ∨ a = 18442240474082181120 := fun a ha hn => by
    by_cases h4 : F.cls a = 4
    · exact .inr ((cls_inf ha.1 ha.2).1 h4)
    · exact .inl ⟨ha.1, ha.2, cls_fi.1 ⟨cls_nn.2 hn, h4⟩⟩
  have r9 : F.rnk 9218868437227405312 = 9218868437227405312 := rP
  -- an infinite one
  have inf : ∀ a : Int, 0 ≤ a ∧ a ≤ 18446744073709551615 → F.nn a → F.nn (MT a z mode).1 → (a = 9218868437227405312 → (MT a z mode).1 = 9218868437227405312) ∧ (a = 18442240474082181120 → (MT a z mode).1 = 18442240474082181120) := by
    intro a ha hna hn
    have hs : F.sgn z = false ∨ F.cls z = 1 := by
      have : z ≤ 9223372036854775808 := by unfold F.rnk at h0; split at h0 <;> omega
      rcases Int.lt_or_eq_of_le this with h1 | rfl
      · exact .inl (F.sgn_f h1)
      · exact .inr (by decide)
    have c := F.cls_bd z
    have n5 := cls_nn.2 nz
    constructor
    · rintro rfl
      have c4 : F.cls (9218868437227405312 : Int) = 4 := by decide
      by_cases h1 : F.cls z = 1
      · exfalso
        have e : bc 9218868437227405312 z = (9221120237041090560, true) := by unfold bc; rw [c4, if_pos (by omega)]
        rw [MT_bc hm (by rw [e]), e] at hn
        exact absurd hn (by unfold F.nn; decide)
      · have e : bc 9218868437227405312 z = (9218868437227405312, true) := by
          unfold bc sp
          rw [c4, if_neg (by omega), if_pos (by omega), if_pos (by rw [hs.resolve_right h1]; decide)]; rfl
        rw [MT_bc hm (by rw [e]), e]
    · rintro rfl
      have c4 : F.cls (18442240474082181120 : Int) = 4 := by decide
      by_cases h1 : F.cls z = 1
      · exfalso
        have e : bc 18442240474082181120 z = (9221120237041090560, true) := by unfold bc; rw [c4, if_pos (by omega)]
        rw [MT_bc hm (by rw [e]), e] at hn
        exact absurd hn (by unfold F.nn; decide)
      · have e : bc 18442240474082181120 z = (18442240474082181120, true) := by
          unfold bc sp
          rw [c4, if_neg (by omega), if_pos (by omega), if_neg (by rw [hs.resolve_right h1]; decide)]; rfl
        rw [MT_bc hm (by rw [e]), e]
  rcases kk z hz nz with fz | rfl | rfl
  · rcases kk x hx nx with fx | rfl | rfl
    · rcases kk y hy ny with fy | rfl | rfl
      · rw [MT_rnk hm fx fz, MT_rnk hm fy fz]
        obtain ⟨K, hK⟩ : ∃ K : Nat, K = 60000 := ⟨_, rfl⟩
        have a := pd_p fx fz hK
        have b := pd_p fy fz hK
        apply order_p a.2.1.ok b.2.1.ok hm
        apply Int.le_of_mul_le_mul_right _ (two_pos' K)
        rw [a.2.2, b.2.2]
        exact Int.mul_le_mul_of_nonneg_right (val_le fx fy h) (val_pos fz h0)
      · rw [(inf _ hy ny nb).1 rfl, r9]; exact l1.2
      · have := rnk_fi fx; rw [rM] at h; omega
    · have hy9 : y = 9218868437227405312 := by
        rcases kk y hy ny with fy | rfl | rfl
        · have := rnk_fi fy; rw [r9] at h; omega
        · rfl
        · rw [r9, rM] at h; omega
      subst hy9
      exact Int.le_refl _
    · rw [(inf _ hx nx na).2 rfl, rM]; exact l2.1
  · -- times Inf
    have c4 : F.cls (9218868437227405312 : Int) = 4 := by decide
    have s9 : F.sgn (9218868437227405312 : Int) = false := by decide
    have val' : ∀ a : Int, 0 ≤ a ∧ a ≤ 18446744073709551615 → F.nn a → F.nn (MT a 9218868437227405312 mode).1 → F.cls a ≠ 1 ∧ (MT a 9218868437227405312 mode).1 = if F.sgn a = false then 9218868437227405312 else 18442240474082181120 := by
      intro a ha hna hn
      have c := F.cls_bd a
      have n5 := cls_nn.2 hna
      have h1 : F.cls a ≠ 1 := fun h1 => by
        have e : bc a 9218868437227405312 = (9221120237041090560, true) := by unfold bc; rw [c4, if_pos (by omega)]
        rw [MT_bc hm (by rw [e]), e] at hn
        exact absurd hn (by unfold F.nn; decide)
      refine ⟨h1, ?_⟩
      have e : bc a 9218868437227405312 = (sp a 9218868437227405312 + 9218868437227405312, true) := by
        unfold bc
        rw [c4, if_neg (by omega), if_pos (by omega)]
      rw [MT_bc hm (by rw [e]), e]
      unfold sp
      rw [s9]
      split <;> rfl
    obtain ⟨x1, x2⟩ := val' x hx nx na
    obtain ⟨y1, y2⟩ := val' y hy ny nb
    rw [x2, y2]
    cases hsx : F.sgn x
    · cases hsy : F.sgn y
      · exact Int.le_refl _
      · exfalso
        have a := (F.sgn_iff' x).1 hsx
        have b := (F.sgn_iff y).1 hsy
        have c := mt (cls1 hx.1 hx.2).2 x1
        have d := mt (cls1 hy.1 hy.2).2 y1
        unfold F.rnk at h
        rw [if_pos a, if_neg (by omega)] at h
        omega
    · cases hsy : F.sgn y
      · decide
      · exact Int.le_refl _
  · exfalso; rw [rM] at h0; omega
/-- times a power of two -/
theorem mk_val {s : Bool} {e f w : Int} (he : 1 ≤ e ∧ e ≤ 2046) (hf : 0 ≤ f ∧ f ≤ 4503599627370495) (hw : w = F.mk s e f) : fi w ∧ val w = sgm s (sc (4503599627370496 + f) (e - 1075)) := by
  have bd := F.mk_bd s e f (by omega) (by omega) hf.1 hf.2
  have e1 := F.exq_mk s e f (by omega) (by omega) hf.1 hf.2
  have e3 := F.sgn_mk s e f (by omega) (by omega) hf.1 hf.2
  have e2 := F.fra_mk s e f (by omega) (by omega) hf.1 hf.2
  rw [← hw] at bd e1 e2 e3
  have fw : fi w := ⟨bd.1, bd.2, by omega⟩
  refine ⟨fw, ?_⟩
  have hr : w % 9223372036854775808 = e * 4503599627370496 + f := by rw [← e1, ← e2]; unfold F.exq F.fra; omega
  obtain ⟨j, hj⟩ : ∃ j : Nat, (j : Int) = e - 1 := ⟨(e - 1).toNat, by omega⟩
  have u := (U_of (k := j) (q := 4503599627370496 + f) (by omega) (by omega) (by omega)).1
  rw [show (j : Int) * 4503599627370496 + (4503599627370496 + f) = e * 4503599627370496 + f by omega, show (j : Int) - 1074 = e - 1075 by omega, ← sc_mul1] at u
  rw [val_eq fw, e3, hr, u]
theorem powers_p {x k mode p w : Int} (hm : 0 ≤ mode ∧ mode ≤ 4) (hx : 0 ≤ x ∧ x ≤ 18446744073709551615) (hc : F.cls x = 3) (hk : -1022 ≤ k) (hk' : k ≤ 1023) (he : 1 ≤ F.exq x + k) (he' : F.exq x + k ≤ 2046)
    (hp : p = (1023 + k) * 4503599627370496) (hw : w = F.mk (F.sgn x) (F.exq x + k) (F.fra x)) : MT x p mode = (w, false, 0) := by
  obtain ⟨K, hK⟩ : ∃ K : Nat, K = 60000 := ⟨_, rfl⟩
  have vp := pow_val hk hk' hp
  have fx : fi x := (fi_cls hx).2 (by omega)
  have hq := F.exq_bd x
  have hf := F.fra_bd x
  have h1 : 1 ≤ F.exq x ∧ F.exq x ≤ 2046 := by
    refine ⟨?_, by have := fx.2.2; omega⟩
    rcases Int.lt_or_eq_of_le hq.1 with h | h
    · omega
    · exfalso
      unfold F.cls at hc
      rw [if_pos h.symm] at hc
      split at hc <;> omega
  have vw := mk_val ⟨he, he'⟩ hf hw
  have vx := mk_val (s := F.sgn x) (w := x) h1 hf (F.mk_parts x hx.1 hx.2).symm
  have a := pd_p fx vp.1 hK
  have b := of_fit vw.1
  have e1 := sc_mul (m := 4503599627370496 + F.fra x) (n := 1) (x := F.exq x - 1075) (y := k) (by omega) (by omega) hK
  rw [Int.mul_one, show F.exq x - 1075 + k = F.exq x + k - 1075 by omega] at e1
  have ed : (PD x p).d = (OfD w).d := by
    refine S_inj a.2.1.ok b.2.ok (K_inj (K := K) ?_)
    rw [a.2.2, vp.2.1, vx.2]
    show _ = val w * 2 ^ K
    rw [vw.2]
    unfold sgm
    cases F.sgn x
    · simp; exact e1.symm
    · simp; rw [Int.neg_mul, Int.neg_mul, e1]
  have n3 : F.cls w ≠ 1 := by
    have ew := F.exq_mk (F.sgn x) (F.exq x + k) (F.fra x) (by omega) (by omega) hf.1 hf.2
    rw [← hw] at ew
    unfold F.cls
    rw [if_neg (by omega)]
    split <;> (try split) <;> omega
  have nb : (bc x p).2 = false := by
    rw [bc_no hx ⟨vp.1.1, vp.1.2.1⟩]
    refine ⟨fx, vp.1, fun h => ?_, fun h => ?_⟩
    · rw [val0 fx] at h; omega
    · rw [val0 vp.1] at h; omega
  rw [MT_fi hm nb, ed]
  have s := same_p vw.1.1 vw.1.2.1 vw.1.2.2 hm
  rw [s.2.1]
  rcases s.2.2 with h1 | ⟨-, rfl, -⟩
  · rw [eq_of_beq h1]
  · exact absurd (by decide) n3
/-- nothing is lost just if it is exact -/
theorem val_rx {b : Bool} {r : Int} (r0 : 0 ≤ r) (r1 : r ≤ 9218868437227405311) : fi (rx b r) ∧ val (rx b r) = sgm b (U r) := by
  have bd := rx_bd (b := b) r0 (show r ≤ 9218868437227405312 by omega)
  have hmod : rx b r % 9223372036854775808 = r ∧ F.sgn (rx b r) = b := by
    unfold rx F.neg F.sgn
    cases b
    · simp; omega
    · simp; rw [if_pos (by omega)]; omega
  have hf : fi (rx b r) := fi_of bd.1 bd.2.1 (by rw [hmod.1]; omega)
  exact ⟨hf, by rw [val_eq hf, hmod.1, hmod.2]⟩
theorem S_sg (d : Dy) : S d = sgm (ng d) (A d) ∧ 0 ≤ A d := by
  have a := A_abs d
  rcases Int.lt_or_le (S d) 0 with h | h
  · rw [(a.2 h).1, (a.2 h).2]; unfold sgm; simp; omega
  · rw [(a.1 h).1, (a.1 h).2]; unfold sgm; simp; omega
theorem exact_iff {d : Dy} {mode : Int} (hm : 0 ≤ mode ∧ mode ≤ 4) (h : Ok d) : TL d mode = false ↔ (fi (TX d mode) ∧ val (TX d mode) = S d) := by
  constructor
  · intro hl
    obtain ⟨r, hf, m, t, -⟩ := towA h
    rw [(TX_of h hm t).2.1] at hl
    have e1 : hf = false := by cases hf <;> simp_all
    have e2 : m = false := by cases m <;> simp_all
    have q1 := t.hh
    have q2 := t.hm
    rw [e1] at q1
    rw [e2] at q2
    have q1' := of_decide_eq_false q1.symm
    have q2' := of_decide_eq_false q2.symm
    have lo := t.lo
    have e : A d = U r := by
      rcases Classical.em (A d = U r) with h | h
      · exact h
      · exfalso; apply q2'; exact ⟨h, by omega⟩
    exact (exact_p hm h t.r0 t.r1 e).2
  · rintro ⟨f, hv⟩
    have hr := fi_mod f
    have ev := val_eq f
    have s := S_sg d
    have e : A d = U (TX d mode % 9223372036854775808) := by
      have hU := U_pos (r := TX d mode % 9223372036854775808) (by omega)
      rw [hv, s.1] at ev
      have s2 := s.2
      unfold sgm at ev
      split at ev <;> split at ev <;> omega
    exact (exact_p hm h (by omega) hr e).1
end PC
end Go.Proofs.YtejglcpiihkenaaGreatDoor

/-
  Package prod, pure: Fma by one, by nothing more, and what is left of a product.
-/
namespace Go.Proofs.YtejglcpiihkenaaGreatDoor
set_option linter.unusedVariables false
set_option linter.unusedSimpArgs false
open Go.RowKit
set_option linter.unusedVariables false
set_option linter.unusedSimpArgs false
namespace PC
open L NC NK DC RC SC
theorem FT_no {x y z mode : Int} (h : ¬ (0 ≤ mode ∧ mode ≤ 4)) : FT x y z mode = (0, false, 1) := by unfold FT; rw [if_pos h]
theorem FT_bc {x y z mode : Int} (hm : 0 ≤ mode ∧ mode ≤ 4) (h : (bc x y).2 = true) : FT x y z mode = AT [(bc x y).1, z] mode := by
  unfold FT; rw [if_neg (by simpa using hm), if_pos h]
theorem FT_nf {x y z mode : Int} (hm : 0 ≤ mode ∧ mode ≤ 4) (h : (bc x y).2 = false) (hz : F.exq z = 2047) : FT x y z mode = AT [0, z] mode := by
  unfold FT; rw [if_neg (by simpa using hm), if_neg (by rw [h]; simp), if_pos hz]
theorem FT_fi {x y z mode : Int} (hm : 0 ≤ mode ∧ mode ≤ 4) (h : (bc x y).2 = false) (hz : F.exq z ≠ 2047) : FT x y z mode = if (fd x y z).m = 0 ∧ mode = 2 then (9223372036854775808, false, 0) else (TX (fd x y z) mode, TL (fd x y z) mode, 0) := by
  unfold FT; rw [if_neg (by simpa using hm), if_neg (by rw [h]; simp), if_neg hz]
theorem fd_p {x y z : Int} (hx : fi x) (hy : fi y) (hz : fi z) : FitP (fd x y z) 2 ∧ S (fd x y z) = S (PD x y).d + val z := by
  have a := (pd_p hx hy rfl).2.1
  have b := fitP_of (of_fit hz).2
  have c := add_fitP a b (by omega)
  exact ⟨c.2.1, c.2.2⟩
theorem TX0 {d : Dy} {mode : Int} (hm : 0 ≤ mode ∧ mode ≤ 4) (h : Ok d) (h0 : S d = 0) : TX d mode = 0 ∧ TL d mode = false := by
  have a := (A_abs d).1 (by omega)
  have t : Tow (A d) 0 false false := by rw [a.1, h0]; exact tow_zero
  obtain ⟨e1, e2, -⟩ := TX_of h hm t
  rw [e1, e2, ry_none, a.2]
  exact ⟨rfl, rfl⟩
theorem AT_nan {x z mode : Int} (hm : 0 ≤ mode ∧ mode ≤ 4) (hx : 0 ≤ x ∧ x ≤ 18446744073709551615) (hz : 0 ≤ z ∧ z ≤ 18446744073709551615) (h : F.cls x = 5) : AT [x, z] mode = (9221120237041090560, false, 0) := by
  rw [AT_wv hm (by simp) (u2 hx hz) (fun hf => (cls_fi.2 (hf x (by simp)).2.2).1 h)]
  have : hN [x, z] = true := by simp [hN, h]
  rw [this]; rfl
theorem nfi {y : Int} (hy : fi y) : F.cls y ≠ 5 ∧ (y == 9218868437227405312) = false ∧ (y == 18442240474082181120) = false := by
  have := fi_mod hy
  refine ⟨(cls_fi.2 hy.2.2).1, ?_, ?_⟩ <;> rw [beq_eq_false_iff_ne] <;> rintro rfl <;> simp at this
theorem AT_nf {x z mode : Int} (hm : 0 ≤ mode ∧ mode ≤ 4) (hx : fi x) (hz : 0 ≤ z ∧ z ≤ 18446744073709551615) (h : F.exq z = 2047) : AT [x, z] mode = ((WV (F.cls z == 5) (z == 9218868437227405312) (z == 18442240474082181120)).1, false, 0) := by
  rw [AT_wv hm (by simp) (u2 ⟨hx.1, hx.2.1⟩ hz) (fun hf => (hf z (by simp)).2.2 h)]
  have n := nfi hx
  have e1 : hN [x, z] = (F.cls z == 5) := by simp [hN, n.1]
  have e2 : hP [x, z] = (z == 9218868437227405312) := by simp [hP]; intro h; rw [h] at n; simp at n
  have e3 : hM [x, z] = (z == 18442240474082181120) := by simp [hM]; intro h; rw [h] at n; simp at n
  rw [e1, e2, e3]
theorem FT_bd {x y z : Int} (mode : Int) (hx : 0 ≤ x ∧ x ≤ 18446744073709551615) (hy : 0 ≤ y ∧ y ≤ 18446744073709551615) (hz : 0 ≤ z ∧ z ≤ 18446744073709551615) : 0 ≤ (FT x y z mode).1 ∧ (FT x y z mode).1 ≤ 18446744073709551615 := by
  by_cases hm : 0 ≤ mode ∧ mode ≤ 4
  · cases h : (bc x y).2
    · obtain ⟨f, g, -⟩ := (bc_no hx hy).1 h
      by_cases hq : F.exq z = 2047
      · rw [FT_nf hm h hq]; exact AT_bd mode (u2 (by omega) hz)
      · rw [FT_fi hm h hq]
        split
        · exact ⟨by simp, by simp⟩
        · have := TX_bd (fd x y z) mode fun _ => (fd_p f g ⟨hz.1, hz.2, hq⟩).1.ok
          exact ⟨this.1, this.2.1⟩
    · rw [FT_bc hm h]; exact AT_bd mode (u2 (bc_bd x y) hz)
  · rw [FT_no hm]; exact ⟨by simp, by simp⟩
/-- times one it is the sum -/
theorem fused_one {x z mode O : Int} (hx : 0 ≤ x ∧ x ≤ 18446744073709551615) (hz : 0 ≤ z ∧ z ≤ 18446744073709551615) (hO : O = 4607182418800017408) : FT x O z mode = AT [x, z] mode := by
  by_cases hm : 0 ≤ mode ∧ mode ≤ 4
  · obtain ⟨K, hK⟩ : ∃ K : Nat, K = 60000 := ⟨_, rfl⟩
    have o := one_val hO hK
    have e := bc_one hx hO
    cases h : (bc x O).2
    · obtain ⟨f, -, h0, -⟩ := (bc_no hx ⟨o.1.1, o.1.2.1⟩).1 h
      by_cases hq : F.exq z = 2047
      · rw [FT_nf hm h hq, AT_nf hm val00.1 hz hq, AT_nf hm f hz hq]
      · have fz : fi z := ⟨hz.1, hz.2, hq⟩
        rw [FT_fi hm h hq]
        have a := fd_p f o.1 fz
        have e1 : S (PD x O).d = val x := by rw [pd_one f hO]; rfl
        rw [e1] at a
        have t := tot_ok (f2 f fz) (by simp)
        have v : vs [x, z] = val x + val z := by simp [vs]
        have ed : fd x O z = tot [x, z] dz := S_inj a.1.ok t.1 (by rw [a.2, t.2, v])
        have af := AT_fin hm (by simp) (f2 f fz)
        by_cases h1 : vs [x, z] = 0
        · rw [af.1 h1]
          have hm0 : (fd x O z).m = 0 := by rw [S_m', a.2, ← v]; exact h1
          have k := TX0 hm a.1.ok (by rw [a.2, ← v]; exact h1)
          have hsm : ¬ sm [x, z] = true := fun h => by
            obtain ⟨c, hc⟩ := sm_iff.1 h
            have e1 := hc x (by simp)
            have e2 := hc z (by simp)
            have hv : val x + val z = 0 := by rw [← v]; exact h1
            rw [e2, ← e1] at hv
            exact h0 (by omega)
          have hz : ZR [x, z] mode = if mode = 2 then 9223372036854775808 else 0 := by
            unfold ZR; rw [if_neg (by simp), if_neg hsm]
          rw [hz, k.1, k.2]
          by_cases hm2 : mode = 2
          · rw [if_pos ⟨hm0, hm2⟩, if_pos hm2]
          · rw [if_neg (fun h => hm2 h.2), if_neg hm2]
        · rw [af.2 h1, if_neg (fun h => h1 (by rw [v, ← a.2]; exact S_m'.1 h.1)), ed]
    · rw [FT_bc hm h, e]
      rw [e] at h
      by_cases h5 : F.cls x = 5
      · rw [if_pos h5, AT_nan hm hx hz h5, AT_nan hm (by omega) hz (by decide)]
      · rw [if_neg h5] at h ⊢
        by_cases h4 : F.cls x = 4 ∨ F.cls x = 1
        · rw [if_pos h4]
        · rw [if_neg h4] at h; cases h
  · rw [FT_no hm, AT_no hm]
/-- with nothing added -/
theorem fused_zero {x y mode : Int} (hm : 0 ≤ mode ∧ mode ≤ 4) (hx : 0 ≤ x ∧ x ≤ 18446744073709551615) (hy : 0 ≤ y ∧ y ≤ 18446744073709551615) :
    ∃ n q b, FT x y 0 mode = (n, b, 0) ∧ MT x y mode = (q, b, 0) ∧ (n = q ∨ (F.cls n = 1 ∧ F.cls q = 1)) := by
  cases h : (bc x y).2
  · obtain ⟨f, g, h0, h1⟩ := (bc_no hx hy).1 h
    have a := fd_p f g val00.1
    rw [val00.2, Int.add_zero] at a
    have b := (pd_p f g rfl).2.1.ok
    have ed : fd x y 0 = (PD x y).d := S_inj a.1.ok b a.2
    rw [FT_fi hm h (by decide), MT_fi hm h, ed, if_neg (fun k => pd_ne f g h0 h1 k.1)]
    exact ⟨_, _, _, rfl, rfl, .inl rfl⟩
  · rw [FT_bc hm h, MT_bc hm h]
    have k : (bc x y).1 = 9221120237041090560 ∨ (bc x y).1 = 9218868437227405312 ∨ (bc x y).1 = 18442240474082181120 ∨ (bc x y).1 = 0 ∨ (bc x y).1 = 9223372036854775808 := by
      unfold bc
      rcases sp2 x y with h | h <;> rw [h] <;> (repeat (first | split | simp))
    rcases k with h | h | h | h | h <;> rw [h]
    · rw [AT_nan hm (by omega) (by omega) (by decide)]; exact ⟨_, _, _, rfl, rfl, .inl rfl⟩
    · rw [AT_comm (by omega) (by omega), AT_nf hm val00.1 (by omega) (by decide)]; exact ⟨_, _, _, rfl, rfl, .inl (by decide)⟩
    · rw [AT_comm (by omega) (by omega), AT_nf hm val00.1 (by omega) (by decide)]; exact ⟨_, _, _, rfl, rfl, .inl (by decide)⟩
    · have v : vs [0, 0] = 0 := by simp [vs, val00.2]
      rw [(AT_fin hm (by simp) (f2 val00.1 val00.1)).1 v]
      exact ⟨_, _, _, rfl, rfl, .inr ⟨(ZR_cls mode (f2 val00.1 val00.1) v).1, by decide⟩⟩
    · have v : vs [9223372036854775808, 0] = 0 := by simp [vs, val00.2, val08.2]
      rw [(AT_fin hm (by simp) (f2 val08.1 val00.1)).1 v]
      exact ⟨_, _, _, rfl, rfl, .inr ⟨(ZR_cls mode (f2 val08.1 val00.1) v).1, by decide⟩⟩
/-- the unit of a number -/
theorem unit_ulp {x : Int} (h : fi x) : ∃ q : Int, 0 ≤ q ∧ q < 9007199254740992 ∧ val x = sgm (F.sgn x) (sc q (F.ulp x)) := by
  have hb := F.exq_bd x
  have hf := F.fra_bd x
  have h2 := h.2.2
  have hr : x % 9223372036854775808 = F.exq x * 4503599627370496 + F.fra x := by unfold F.exq F.fra; omega
  have mb : 0 ≤ mant x ∧ mant x < 9007199254740992 := by unfold mant; split <;> omega
  obtain ⟨k, hk⟩ : ∃ k : Nat, F.ulp x + 1074 = k := ⟨(F.ulp x + 1074).toNat, by unfold F.ulp; split <;> omega⟩
  have hkq : x % 9223372036854775808 = k * 4503599627370496 + mant x ∧ (k = 0 ∨ 4503599627370496 ≤ mant x) := by
    rw [hr]
    unfold F.ulp at hk
    unfold mant
    by_cases h : 0 < F.exq x
    · rw [if_pos h]; rw [if_pos (by omega)] at hk; exact ⟨by omega, by omega⟩
    · rw [if_neg h]; rw [if_neg (by omega)] at hk; exact ⟨by omega, by omega⟩
  have eU := (U_of mb.1 mb.2 hkq.2).1
  rw [← hkq.1, show (k : Int) - 1074 = F.ulp x by omega, ← sc_mul1] at eU
  exact ⟨_, mb.1, mb.2, by rw [val_eq h, eU]⟩
theorem ulp_bd {x : Int} (h : fi x) : -1074 ≤ F.ulp x ∧ F.ulp x ≤ 971 := by
  have := F.exq_bd x
  have := h.2.2
  unfold F.ulp; split <;> omega
theorem pd_unit {x y : Int} (hx : fi x) (hy : fi y) : ∃ N : Int, 0 ≤ N ∧ N < 81129638414606681695789005144064 ∧ A (PD x y).d = N * sc 1 (F.ulp x + F.ulp y) := by
  obtain ⟨K, hK⟩ : ∃ K : Nat, K = 60000 := ⟨_, rfl⟩
  have a := pd_p hx hy hK
  obtain ⟨p, p0, p1, ep⟩ := unit_ulp hx
  obtain ⟨q, q0, q1, eq⟩ := unit_ulp hy
  have u1 := ulp_bd hx
  have u2 := ulp_bd hy
  have e := sc_mul (m := p) (n := q) (x := F.ulp x) (y := F.ulp y) (by omega) (by omega) hK
  have hN : 0 ≤ p * q := Int.mul_nonneg p0 q0
  refine ⟨p * q, hN, ?_, ?_⟩
  · have := Int.mul_le_mul_of_nonneg_right (show p ≤ 9007199254740991 by omega) q0
    omega
  · rw [← sc_mul1]
    have hz : 0 ≤ sc (p * q) (F.ulp x + F.ulp y) := by rw [sc_mul1]; exact Int.mul_nonneg hN (Int.le_of_lt (sc_one_pos _))
    have eS : S (PD x y).d = sgm (F.sgn x != F.sgn y) (sc (p * q) (F.ulp x + F.ulp y)) := by
      apply K_inj (K := K)
      rw [a.2.2, ep, eq, ← sg_xor, ← e]
      unfold sgm
      cases (F.sgn x != F.sgn y)
      · simp
      · simp [Int.neg_mul]
    have s := S_sg (PD x y).d
    have s2 := s.2
    rw [s.1] at eS
    unfold sgm at eS
    split at eS <;> split at eS <;> omega
theorem two_le' {a b : Nat} (h : a ≤ b) : (2 : Int) ^ a ≤ 2 ^ b := by
  obtain ⟨k, rfl⟩ : ∃ k, b = a + k := ⟨b - a, by omega⟩
  rw [Int.pow_add]
  have h1 := two_pos' a
  have h2 := two_pos' k
  have h3 := Int.mul_le_mul_of_nonneg_left (show (1 : Int) ≤ 2 ^ k by omega) (Int.le_of_lt h1)
  omega
/-- what is left -/
theorem left_p {d : Dy} {mode b N : Int} (hm : 0 ≤ mode ∧ mode ≤ 4) (h : Ok d) (hb : -1074 ≤ b) (hN : 0 ≤ N) (hN2 : N < 81129638414606681695789005144064) (e : A d = N * sc 1 b) (hp : F.abs (TX d mode) < 9218868437227405311) :
    fi (TX d mode) ∧ ∃ r, 0 ≤ r ∧ r ≤ 9218868437227405311 ∧ (S d - val (TX d mode) = U r ∨ S d - val (TX d mode) = -U r) := by
  obtain ⟨M, hM⟩ : ∃ M : Int, M = 9218868437227405311 := ⟨_, rfl⟩
  rw [← hM] at hp ⊢
  obtain ⟨r, hf, m, t, -⟩ := towA h
  obtain ⟨x1, x2, -⟩ := TX_of h hm t
  have kb := ry_bd (b := ng d) t mode
  obtain ⟨y, hy⟩ : ∃ y, ry (ng d) r hf m mode = y := ⟨_, rfl⟩
  rw [hy] at kb x1
  have hmod : F.abs (rx (ng d) y) = y := by
    unfold rx F.neg F.abs
    cases ng d
    · simp; omega
    · simp; rw [if_pos (by omega)]; omega
  rw [x1, hmod] at hp
  have r0 := t.r0
  have v := val_rx (b := ng d) kb.1 (show y ≤ 9218868437227405311 by omega)
  have s := S_sg d
  rw [x1]
  refine ⟨v.1, ?_⟩
  rw [v.2, s.1]
  have hlo := t.lo
  have hhi := t.hi (by omega)
  have key : ∃ r', 0 ≤ r' ∧ r' ≤ M ∧ (A d - U y = U r' ∨ A d - U y = -U r') := by
    by_cases hA : A d = U r
    · refine ⟨0, by omega, by omega, .inl ?_⟩
      have tw := tow_exact (r := r) r0 (by omega)
      rw [← hA] at tw
      obtain ⟨-, e1, e2⟩ := t.unique tw
      rw [e1, e2, ry_none] at hy
      rw [← hy, U_zero]; omega
    · obtain ⟨k, q, rfl, q0, q1, hc⟩ := r_parts r0
      obtain ⟨g1, g2⟩ := U_of q0 q1 hc
      obtain ⟨i, hi⟩ : ∃ i : Nat, (i : Int) = b + 1074 := ⟨(b + 1074).toNat, by omega⟩
      have hbi : b = i - 1074 := by omega
      subst hbi
      have hU1 : U (k * 4503599627370496 + q + 1) ≤ U M := U_le (by omega) (by omega)
      have hEp := sc_one_pos ((k : Int) - 1074)
      have hBp := sc_one_pos ((i : Int) - 1074)
      rcases Nat.lt_or_ge i k with hik | hik
      · obtain ⟨j, hj⟩ : ∃ j : Nat, k = i + j := ⟨k - i, by omega⟩
        have eE : sc 1 ((k : Int) - 1074) = 2 ^ j * sc 1 ((i : Int) - 1074) := by
          rw [← sc_mul1, sc_two _ _ (by omega)]
          congr 1; omega
        have q2 : 4503599627370496 ≤ q := by omega
        obtain ⟨B, hB⟩ : ∃ B, sc 1 ((i : Int) - 1074) = B := ⟨_, rfl⟩
        have hP := two_pos' j
        have hj2 : (2 : Int) ^ j ≤ 9007199254740992 := by
          rcases Nat.lt_or_ge 53 j with h3 | h3
          · exfalso
            have a1 : (2 : Int) ^ 54 ≤ 2 ^ j := two_le' (by omega)
            have a2 := Int.mul_le_mul_of_nonneg_left a1 (show (0 : Int) ≤ 4503599627370496 by omega)
            have a3 := Int.mul_le_mul_of_nonneg_right q2 (Int.le_of_lt hP)
            rw [g1, eE, hB, e, hB, ← Int.mul_assoc] at hlo
            rw [hB] at hBp
            have a4 := Int.le_of_mul_le_mul_right hlo hBp
            have : (4503599627370496 : Int) * 2 ^ 54 = 81129638414606681695789005144064 := by decide
            omega
          · have : (2 : Int) ^ j ≤ 2 ^ 53 := two_le' h3
            exact this
        rw [hB] at eE hBp e
        have hAr : A d ≠ q * (2 ^ j * B) := by rw [← eE, ← g1]; exact hA
        rw [g1, eE] at hlo
        rw [g2, eE] at hhi hU1
        rw [e] at hlo hhi hAr
        generalize hPj : (2 : Int) ^ j = P at *
        have f1 : q * (P * B) = (q * P) * B := by rw [Int.mul_assoc]
        have f2' : (q + 1) * (P * B) = (q * P + P) * B := by rw [← Int.mul_assoc, Int.add_mul, Int.one_mul]
        rw [f1] at hlo hAr
        rw [f2'] at hhi hU1
        have l1 := Int.le_of_mul_le_mul_right hlo hBp
        have l2 := Int.lt_of_mul_lt_mul_right hhi (Int.le_of_lt hBp)
        have l3 : N ≠ q * P := fun h => hAr (by rw [h])
        have hPB : P * B ≤ (q * P + P) * B := by
          apply Int.mul_le_mul_of_nonneg_right _ (Int.le_of_lt hBp)
          have := Int.mul_nonneg q0 (Int.le_of_lt hP)
          omega
        have fin' : ∀ n : Int, 0 ≤ n → n < P → ∃ r', 0 ≤ r' ∧ r' ≤ M ∧ n * B = U r' := fun n n0 n1 => by
          have hn := Int.mul_le_mul_of_nonneg_right (show n ≤ P by omega) (Int.le_of_lt hBp)
          exact rank_of (N := n) (q := n) (k := i) hM hB.symm rfl n0 (Int.le_refl _) (by omega) (by omega)
        rcases (show y = k * 4503599627370496 + q ∨ y = k * 4503599627370496 + q + 1 by omega) with hyy | hyy
        · rw [hyy, g1, eE, f1, e, ← Int.sub_mul]
          obtain ⟨r', a, b, c⟩ := fin' (N - q * P) (by omega) (by omega)
          exact ⟨r', a, b, .inl c⟩
        · rw [hyy, g2, eE, f2', e, ← Int.sub_mul]
          obtain ⟨r', a, b, c⟩ := fin' (q * P + P - N) (by omega) (by omega)
          refine ⟨r', a, b, .inr ?_⟩
          rw [← c, ← Int.neg_mul]; congr 1; omega
      · exfalso
        obtain ⟨j, hj⟩ : ∃ j : Nat, i = k + j := ⟨i - k, by omega⟩
        have eE : sc 1 ((i : Int) - 1074) = 2 ^ j * sc 1 ((k : Int) - 1074) := by
          rw [← sc_mul1, sc_two _ _ (by omega)]
          congr 1; omega
        rw [eE, ← Int.mul_assoc] at e
        rw [g1, e] at hlo
        rw [g2, e] at hhi
        have l1 := Int.le_of_mul_le_mul_right hlo hEp
        have l2 := Int.lt_of_mul_lt_mul_right hhi (Int.le_of_lt hEp)
        apply hA
        rw [g1, e, show N * 2 ^ j = q by omega]
  obtain ⟨r', a, b, c⟩ := key
  refine ⟨r', a, b, ?_⟩
  unfold sgm
  cases ng d
  · simp; exact c
  · simp; omega
theorem rest_p {x y mode : Int} (hm : 0 ≤ mode ∧ mode ≤ 4) (fx : fi x) (fy : fi y) (hu : -1074 ≤ F.ulp x + F.ulp y) (hp : F.abs (MT x y mode).1 < 9218868437227405311) : ∃ a, FT x y (F.neg (MT x y mode).1) mode = (a, false, 0) := by
  have hx := And.intro fx.1 fx.2.1
  have hy := And.intro fy.1 fy.2.1
  cases h : (bc x y).2
  · rw [MT_fi hm h] at hp ⊢
    dsimp only at hp ⊢
    obtain ⟨N, n0, n1, e⟩ := pd_unit fx fy
    have a := (pd_p fx fy rfl).2.1.ok
    obtain ⟨f, r, r0, r1, hr⟩ := left_p hm a hu n0 n1 e hp
    have g := fi_neg f
    rw [FT_fi hm h g.2.2]
    have b := fd_p fx fy g
    rw [val_neg f] at b
    have ab := A_abs (fd x y (F.neg (TX (PD x y).d mode)))
    have hU := U_pos r0
    have eA : A (fd x y (F.neg (TX (PD x y).d mode))) = U r := by
      rw [b.2] at ab
      rcases Int.lt_or_le (S (PD x y).d + -val (TX (PD x y).d mode)) 0 with h1 | h1
      · rw [(ab.2 h1).1]; omega
      · rw [(ab.1 h1).1]; omega
    have el := (exact_p hm b.1.ok r0 r1 eA).1
    rw [el]
    split
    · exact ⟨_, rfl⟩
    · exact ⟨_, rfl⟩
  · rw [MT_bc hm h, FT_bc hm h]
    dsimp only
    have c1 := (fi_cls hx).1 fx
    have c2 := (fi_cls hy).1 fy
    have h3 : min (F.cls x) (F.cls y) = 1 := by
      rcases Classical.em (min (F.cls x) (F.cls y) = 1) with h3 | h3
      · exact h3
      · exfalso
        unfold bc at h
        rw [if_neg (by omega), if_neg (by omega), if_neg h3] at h
        cases h
    have e : bc x y = (sp x y, true) := by
      unfold bc
      rw [if_neg (by omega), if_neg (by omega), if_pos h3]
    rw [e]
    dsimp only
    have f : fi (sp x y) ∧ val (sp x y) = 0 := by
      rcases sp2 x y with h | h <;> rw [h]
      · exact val00
      · exact val08
    rw [(AT_fin hm (by simp) (f2 f.1 (fi_neg f.1))).1 (by simp [vs, val_neg f.1, f.2])]
    exact ⟨_, rfl⟩
end PC
end Go.Proofs.YtejglcpiihkenaaGreatDoor

/-
  Package exact, pure: what TwoSum and FastSum tell (T2, T1); nothing is lost; what is lost is no more than half of what one more counts.
-/
namespace Go.Proofs.YtejglcpiihkenaaGreatDoor
set_option linter.unusedVariables false
set_option linter.unusedSimpArgs false
open Go.RowKit
set_option linter.unusedVariables false
set_option linter.unusedSimpArgs false
namespace XC
open L NC NK DC RC SC PC
noncomputable def ad (x y : Int) : Int := (AT [x, y] 0).1
noncomputable def sb (x y : Int) : Int := (AT [x, F.neg y] 0).1
noncomputable def T2 (x y : Int) : Int × Int × Int :=
  if F.exq x = 2047 ∨ F.exq y = 2047 then (0, 0, 4) else if F.exq (ad x y) = 2047 then (0, 0, 2) else
  (ad x y, ad (sb x (sb (ad x y) y)) (sb y (sb (ad x y) (sb (ad x y) y))), 0)
noncomputable def T1 (x y : Int) : Int × Int × Int :=
  if F.exq x = 2047 ∨ F.exq y = 2047 then (0, 0, 4) else if F.exq (ad x y) = 2047 then (0, 0, 2) else
  (ad x y, sb y (sb (ad x y) x), 0)
/-- below 2^900, over the least unit -/
@[irreducible] def LL9 : Int := 2 ^ 1974
theorem lim9 {M : Int} (hM : M = 9218868437227405311) : 400 * (LL9 * e0) ≤ U M := by
  obtain ⟨k, hk⟩ : ∃ k : Nat, k = 2045 := ⟨_, rfl⟩
  have hU := (U_of (k := k) (q := 9007199254740991) (by omega) (by omega) (by omega))
  rw [show (k : Int) * 4503599627370496 + 9007199254740991 = M by omega] at hU
  rw [hU.1, e0_pow]
  obtain ⟨a, ha⟩ : ∃ a : Nat, a = 1974 := ⟨_, rfl⟩
  have e : LL9 = 2 ^ a := by unfold LL9; rw [ha]
  rw [e]
  have h1 : (2 : Int) ^ a ≤ 2 ^ k := tle (by omega)
  have h2 := Int.mul_le_mul_of_nonneg_right h1 (Int.le_of_lt e0_pos)
  have h3 := Int.mul_nonneg (Int.le_of_lt (tp a)) (Int.le_of_lt e0_pos)
  generalize (2 : Int) ^ a * e0 = p at *
  generalize (2 : Int) ^ k * e0 = q at *
  omega
theorem lim9_x {x X : Int} (h : fi x) (hx : F.exq x < 1923) (e : val x = X * e0) : X ≤ LL9 ∧ -LL9 ≤ X := by
  obtain ⟨q, q0, q1, hv⟩ := unit_ulp h
  have hu : F.ulp x ≤ 847 := by unfold F.ulp; split <;> omega
  have hb := ulp_bd h
  have h1 := sc1_le hu (by omega)
  obtain ⟨a, ha⟩ : ∃ a : Nat, a = 1974 := ⟨_, rfl⟩
  have e2 : LL9 = 2 ^ a := by unfold LL9; rw [ha]
  have h2 : sc q (F.ulp x) ≤ 2 ^ a * e0 := by
    rw [← e0_pow, show (a : Int) - 1074 = 847 + ((53 : Nat) : Int) by omega, ← sc_two _ _ (by omega), sc_mul1 q, sc_mul1 (2 ^ 53)]
    rw [show (2 : Int) ^ 53 = 9007199254740992 by decide]
    have g1 := sc_one_pos (F.ulp x)
    have g2 := Int.mul_le_mul_of_nonneg_right (Int.le_of_lt q1) (Int.le_of_lt g1)
    have g3 := Int.mul_le_mul_of_nonneg_left h1 (show (0 : Int) ≤ 9007199254740992 by decide)
    omega
  have h3 : 0 ≤ sc q (F.ulp x) := by rw [sc_mul1]; exact Int.mul_nonneg q0 (Int.le_of_lt (sc_one_pos _))
  rw [← e2] at h2
  rw [e] at hv
  have c : X * e0 ≤ LL9 * e0 ∧ -LL9 * e0 ≤ X * e0 := by
    rw [hv, Int.neg_mul]
    unfold sgm
    split <;> omega
  exact ⟨Int.le_of_mul_le_mul_right c.1 e0_pos, Int.le_of_mul_le_mul_right c.2 e0_pos⟩
theorem nr_add {x y X Y L M : Int} (hM : M = 9218868437227405311) (hL : 400 * (L * e0) ≤ U M) (fx : fi x) (fy : fi y) (vx : val x = X * e0) (vy : val y = Y * e0) (h1 : X + Y ≤ 200 * L) (h2 : -(200 * L) ≤ X + Y) : fi (ad x y) ∧ ∃ N, val (ad x y) = N * e0 ∧ Nr (X + Y) N := by
  have ev : vs [x, y] = (X + Y) * e0 := by rw [Int.add_mul, ← vx, ← vy]; simp [vs]
  have a1 := Int.mul_le_mul_of_nonneg_right h1 (Int.le_of_lt e0_pos)
  have a2 := Int.mul_le_mul_of_nonneg_right h2 (Int.le_of_lt e0_pos)
  rw [Int.neg_mul, Int.mul_assoc] at a2
  rw [Int.mul_assoc] at a1
  exact (nr_AT hM (by simp) (f2 fx fy) ev (by rw [ev]; omega) (.inl rfl)).2
theorem nr_sub {x y X Y L M : Int} (hM : M = 9218868437227405311) (hL : 400 * (L * e0) ≤ U M) (fx : fi x) (fy : fi y) (vx : val x = X * e0) (vy : val y = Y * e0) (h1 : X - Y ≤ 200 * L) (h2 : -(200 * L) ≤ X - Y) : fi (sb x y) ∧ ∃ N, val (sb x y) = N * e0 ∧ Nr (X - Y) N := by
  have := nr_add hM hL fx (fi_neg fy) vx (Y := -Y) (by rw [val_neg fy, vy, Int.neg_mul]) (by omega) (by omega)
  rwa [show X + -Y = X - Y by omega] at this
theorem nr_bd {n s B : Int} (h : Nr n s) (h1 : n ≤ B) (h2 : -B ≤ n) : s ≤ 2 * B ∧ -(2 * B) ≤ s := by
  have := h.2 0 fp_zero
  omega
/-- KNUTH: nothing is lost -/
theorem two_p {x y : Int} (fx : fi x) (fy : fi y) (hx : F.exq x < 1923) (hy : F.exq y < 1923) :
    ∃ s r X Y N : Int, T2 x y = (s, r, 0) ∧ fi s ∧ fi r ∧ val x = X * e0 ∧ val y = Y * e0 ∧ val s = N * e0 ∧ val r = (X + Y - N) * e0 ∧ Nr (X + Y) N ∧ Fp X ∧ Fp Y := by
  obtain ⟨M, hM⟩ : ∃ M : Int, M = 9218868437227405311 := ⟨_, rfl⟩
  have hL := lim9 hM
  obtain ⟨X, vx, pX⟩ := val_fp fx
  obtain ⟨Y, vy, pY⟩ := val_fp fy
  have bX := lim9_x fx hx vx
  have bY := lim9_x fy hy vy
  generalize LL9 = L at *
  obtain ⟨fs, N, vN, nN⟩ := nr_add hM hL fx fy vx vy (by omega) (by omega)
  have bN := nr_bd nN (B := 2 * L) (by omega) (by omega)
  obtain ⟨fa, A', va, na⟩ := nr_sub hM hL fs fy vN vy (by omega) (by omega)
  have ba := nr_bd na (B := 5 * L) (by omega) (by omega)
  obtain ⟨fb, B', vb, nb⟩ := nr_sub hM hL fs fa vN va (by omega) (by omega)
  have bb := nr_bd nb (B := 14 * L) (by omega) (by omega)
  obtain ⟨fc, C', vc, nc⟩ := nr_sub hM hL fx fa vx va (by omega) (by omega)
  have bc := nr_bd nc (B := 11 * L) (by omega) (by omega)
  obtain ⟨fd, D', vd, nd⟩ := nr_sub hM hL fy fb vy vb (by omega) (by omega)
  have bd := nr_bd nd (B := 29 * L) (by omega) (by omega)
  obtain ⟨fr, R', vr, nr⟩ := nr_add hM hL fc fd vc vd (by omega) (by omega)
  have e := two_sum pX pY nN na nb nc nd nr
  refine ⟨_, _, X, Y, N, ?_, fs, fr, vx, vy, vN, by rw [vr, e], nN, pX, pY⟩
  unfold T2
  rw [if_neg (by rintro (q | q); exact fx.2.2 q; exact fy.2.2 q), if_neg fs.2.2]
/-- DEKKER: where the first one is farther from 0, or as far -/
theorem fast_p {x y : Int} (fx : fi x) (fy : fi y) (hx : F.exq x < 1923) (hy : F.exq y < 1923) (hxy : F.abs y ≤ F.abs x) :
    ∃ s r X Y N : Int, T1 x y = (s, r, 0) ∧ fi s ∧ fi r ∧ val x = X * e0 ∧ val y = Y * e0 ∧ val s = N * e0 ∧ val r = (X + Y - N) * e0 := by
  obtain ⟨M, hM⟩ : ∃ M : Int, M = 9218868437227405311 := ⟨_, rfl⟩
  have hL := lim9 hM
  obtain ⟨X, vx, pX⟩ := val_fp fx
  obtain ⟨Y, vy, pY⟩ := val_fp fy
  have bX := lim9_x fx hx vx
  have bY := lim9_x fy hy vy
  have hA : Y.natAbs ≤ X.natAbs := by
    refine abs_scale e0_pos ?_
    rw [← vx, ← vy, val_eq fx, val_eq fy]
    unfold F.abs at hxy
    have := U_le (r := y % 9223372036854775808) (s := x % 9223372036854775808) (by omega) hxy
    have := U_pos (r := y % 9223372036854775808) (by omega)
    generalize U (y % 9223372036854775808) = u at *
    generalize U (x % 9223372036854775808) = v at *
    unfold sgm
    split <;> split <;> omega
  generalize LL9 = L at *
  obtain ⟨fs, N, vN, nN⟩ := nr_add hM hL fx fy vx vy (by omega) (by omega)
  have bN := nr_bd nN (B := 2 * L) (by omega) (by omega)
  obtain ⟨fa, A', va, na⟩ := nr_sub hM hL fs fx vN vx (by omega) (by omega)
  have ba := nr_bd na (B := 5 * L) (by omega) (by omega)
  obtain ⟨fr, R', vr, nr⟩ := nr_sub hM hL fy fa vy va (by omega) (by omega)
  have e := fast_sum pX pY hA nN na nr
  refine ⟨_, _, X, Y, N, ?_, fs, fr, vx, vy, vN, by rw [vr, e]⟩
  unfold T1
  rw [if_neg (by rintro (q | q); exact fx.2.2 q; exact fy.2.2 q), if_neg fs.2.2]
/-- no more than half of what one more counts -/
theorem half_p {n N s : Int} (fs : fi s) (e : val s = N * e0) (h : Nr n N) : 2 * ((n - N).natAbs * e0) ≤ sc 1 (F.ulp s) := by
  obtain ⟨q, q0, q1, hv⟩ := unit_ulp fs
  have hb := ulp_bd fs
  obtain ⟨k, hk⟩ : ∃ k : Nat, F.ulp s = (k : Int) - 1074 := ⟨(F.ulp s + 1074).toNat, by omega⟩
  rw [hk] at hv ⊢
  rw [sc_mul1 q, e0_pow, ← Int.mul_assoc, e, sgm_mul'] at hv
  have eN := Int.eq_of_mul_eq_mul_right (Int.ne_of_gt e0_pos) hv
  rw [e0_pow, ← Int.mul_assoc]
  refine Int.mul_le_mul_of_nonneg_right ?_ (Int.le_of_lt e0_pos)
  have u1 := h.2 ((sgm (F.sgn s) q + 1) * 2 ^ k) (fp_mk k (by unfold sgm; split <;> omega) (by unfold sgm; split <;> omega))
  have u2 := h.2 ((sgm (F.sgn s) q - 1) * 2 ^ k) (fp_mk k (by unfold sgm; split <;> omega) (by unfold sgm; split <;> omega))
  rw [sgm_mul'] at eN
  rw [Int.add_mul, Int.one_mul, ← eN] at u1
  rw [Int.sub_mul, Int.one_mul, ← eN] at u2
  have := tp k
  generalize (2 : Int) ^ k = p at *
  omega
end XC
end Go.Proofs.YtejglcpiihkenaaGreatDoor

/-
  Package exact, pure: what TwoProd tells (P2); nothing is lost of a product; with 0, times 1; alike values.
-/
namespace Go.Proofs.YtejglcpiihkenaaGreatDoor
set_option linter.unusedVariables false
set_option linter.unusedSimpArgs false
open Go.RowKit
set_option linter.unusedVariables false
set_option linter.unusedSimpArgs false
namespace XC
open L NC NK DC RC SC PC
noncomputable def P2 (x y : Int) : Int × Int × Int :=
  if F.exq x = 2047 ∨ F.exq y = 2047 then (0, 0, 4) else if F.exq (MT x y 0).1 = 2047 then (0, 0, 2) else
  ((MT x y 0).1, (FT x y (F.neg (MT x y 0).1) 0).1, 0)
/-- what is left of the greatest one, told by the nearest -/
theorem left_max {d : Dy} {b N M : Int} (hM : M = 9218868437227405311) (h : Ok d) (hb : -1074 ≤ b) (hN : 0 ≤ N) (hN2 : N < 81129638414606681695789005144064) (e : A d = N * sc 1 b) (hp : F.abs (TX d 0) = M) :
    fi (TX d 0) ∧ ∃ r, 0 ≤ r ∧ r ≤ M ∧ (S d - val (TX d 0) = U r ∨ S d - val (TX d 0) = -U r) := by
  have hm : 0 ≤ (0 : Int) ∧ (0 : Int) ≤ 4 := by omega
  obtain ⟨r, hf, m, t, -⟩ := towA h
  obtain ⟨x1, x2, -⟩ := TX_of h hm t
  have kb := ry_bd (b := ng d) t 0
  obtain ⟨y, hy⟩ : ∃ y, ry (ng d) r hf m 0 = y := ⟨_, rfl⟩
  rw [hy] at kb x1
  have hmod : F.abs (rx (ng d) y) = y := by
    unfold rx F.neg F.abs
    cases ng d
    · simp; omega
    · simp; rw [if_pos (by omega)]; omega
  rw [x1, hmod] at hp
  have v := val_rx (b := ng d) kb.1 (show y ≤ 9218868437227405311 by omega)
  have s := S_sg d
  rw [x1]
  refine ⟨v.1, ?_⟩
  rw [v.2, s.1]
  obtain ⟨k, hk⟩ : ∃ k : Nat, k = 2045 := ⟨_, rfl⟩
  obtain ⟨E, hE⟩ : ∃ E, E = sc 1 ((k : Int) - 1074) := ⟨_, rfl⟩
  have hEp : 0 < E := by rw [hE]; exact sc_one_pos _
  obtain ⟨g1, g2⟩ := (U_of (k := k) (q := 9007199254740991) (by omega) (by omega) (by omega))
  obtain ⟨g3, -⟩ := (U_of (k := k) (q := 9007199254740990) (by omega) (by omega) (by omega))
  rw [← hE] at g1 g2 g3
  rw [show (k : Int) * 4503599627370496 + 9007199254740991 = M by omega] at g1 g2
  rw [show (k : Int) * 4503599627370496 + 9007199254740990 = M - 1 by omega] at g3
  -- no farther than half a unit
  have hD : 2 * (A d - U M) ≤ E ∧ -E ≤ 2 * (A d - U M) := by
    have r1 := t.r1
    have lo := t.lo
    rcases (show r = M ∨ r = M - 1 by omega) with q | q
    · subst q
      have hf0 : hf = false := by
        cases hf
        · rfl
        · exfalso
          unfold ry up at hy
          have ho : decide (r % 2 = 1) = true := by rw [decide_eq_true_iff]; omega
          rw [ho] at hy
          simp at hy
          omega
      have := t.hh
      rw [hf0] at this
      have := of_decide_eq_false this.symm
      rw [g1, g2] at this
      omega
    · subst q
      have hi := t.hi (by omega)
      rw [show M - 1 + 1 = M by omega] at hi
      have hf1 : hf = true := by
        cases hf
        · exfalso
          unfold ry up at hy
          simp at hy
          omega
        · rfl
      have := t.hh
      rw [hf1] at this
      have := of_decide_eq_true this.symm
      rw [show M - 1 + 1 = M by omega, g1, g3] at this
      rw [g1] at hi ⊢
      omega
  have key : ∃ r', 0 ≤ r' ∧ r' ≤ M ∧ (A d - U y = U r' ∨ A d - U y = -U r') := by
    rw [hp]
    obtain ⟨i, hi⟩ : ∃ i : Nat, (i : Int) = b + 1074 := ⟨(b + 1074).toNat, by omega⟩
    have hbi : b = i - 1074 := by omega
    subst hbi
    have hBp := sc_one_pos ((i : Int) - 1074)
    obtain ⟨B, hB⟩ : ∃ B, B = sc 1 ((i : Int) - 1074) := ⟨_, rfl⟩
    rw [← hB] at e hBp
    rcases Nat.lt_or_ge i k with hik | hik
    · obtain ⟨j, hj⟩ : ∃ j : Nat, k = i + j := ⟨k - i, by omega⟩
      have eE : E = 2 ^ j * B := by
        rw [hE, hB, ← sc_mul1, sc_two _ _ (by omega)]
        congr 1; omega
      have hP := two_pos' j
      obtain ⟨K, hK⟩ : ∃ K, K = N - 9007199254740991 * 2 ^ j := ⟨_, rfl⟩
      have eD : A d - U M = K * B := by rw [e, g1, eE, hK, Int.sub_mul, Int.mul_assoc]
      rw [eD, eE] at hD
      have hK1 : 2 * K ≤ 2 ^ j ∧ -(2 ^ j) ≤ 2 * K := by
        constructor
        · refine Int.le_of_mul_le_mul_right ?_ hBp
          rw [Int.mul_assoc]; exact hD.1
        · refine Int.le_of_mul_le_mul_right ?_ hBp
          rw [Int.mul_assoc, Int.neg_mul]; exact hD.2
      have hj2 : (2 : Int) ^ j ≤ 9007199254740992 := by
        rcases Nat.lt_or_ge 53 j with h3 | h3
        · exfalso
          have a1 : (2 : Int) ^ 54 ≤ 2 ^ j := two_le' (by omega)
          rw [show (2 : Int) ^ 54 = 18014398509481984 by decide] at a1
          omega
        · have : (2 : Int) ^ j ≤ 2 ^ 53 := two_le' h3
          exact this
      have uB : ∀ n : Int, 0 ≤ n → n < 9007199254740992 → n * B ≤ U M := fun n n0 n1 => by
        rw [g1, eE, ← Int.mul_assoc]
        exact Int.mul_le_mul_of_nonneg_right (by omega) (Int.le_of_lt hBp)
      rw [eD]
      rcases Int.lt_or_le K 0 with q | q
      · obtain ⟨r', a1, a2, a3⟩ := rank_of (N := -K) (q := -K) hM hB rfl (by omega) (by omega) (by omega) (uB _ (by omega) (by omega))
        exact ⟨r', a1, a2, .inr (by rw [← a3, Int.neg_mul]; omega)⟩
      · obtain ⟨r', a1, a2, a3⟩ := rank_of (N := K) (q := K) hM hB rfl (by omega) (by omega) (by omega) (uB _ (by omega) (by omega))
        exact ⟨r', a1, a2, .inl a3⟩
    · obtain ⟨j, hj⟩ : ∃ j : Nat, i = k + j := ⟨i - k, by omega⟩
      have eB : B = 2 ^ j * E := by
        rw [hE, hB, ← sc_mul1, sc_two _ _ (by omega)]
        congr 1; omega
      obtain ⟨K, hK⟩ : ∃ K, K = N * 2 ^ j - 9007199254740991 := ⟨_, rfl⟩
      have eD : A d - U M = K * E := by rw [e, g1, eB, hK, Int.sub_mul, Int.mul_assoc]
      rw [eD] at hD
      have k1 : 2 * K ≤ 1 := Int.le_of_mul_le_mul_right (by rw [Int.mul_assoc, Int.one_mul]; exact hD.1) hEp
      have k2 : -1 ≤ 2 * K := Int.le_of_mul_le_mul_right (by rw [Int.mul_assoc, Int.neg_mul, Int.one_mul]; exact hD.2) hEp
      refine ⟨0, by omega, by omega, .inl ?_⟩
      rw [eD, U_zero, show K = 0 by omega, Int.zero_mul]
  obtain ⟨r', a, b', c⟩ := key
  refine ⟨r', a, b', ?_⟩
  unfold sgm
  cases ng d
  · simp; exact c
  · simp; omega
/-- DEKKER: nothing is lost of a product -/
theorem prod_x {x y : Int} (fx : fi x) (fy : fi y) (hu : -1074 ≤ F.ulp x + F.ulp y) (fp : fi (MT x y 0).1) :
    ∃ r, (FT x y (F.neg (MT x y 0).1) 0).1 = r ∧ fi r ∧ val (MT x y 0).1 + val r = S (PD x y).d := by
  have hx := And.intro fx.1 fx.2.1
  have hy := And.intro fy.1 fy.2.1
  have hm : 0 ≤ (0 : Int) ∧ (0 : Int) ≤ 4 := by omega
  cases h : (bc x y).2
  · have hp : F.abs (MT x y 0).1 < 9218868437227405312 := by have := fi_mod fp; unfold F.abs; omega
    rw [MT_fi hm h] at hp fp ⊢
    dsimp only at hp fp ⊢
    obtain ⟨N, n0, n1, e⟩ := pd_unit fx fy
    have a := (pd_p fx fy rfl).2.1.ok
    obtain ⟨f, r, r0, r1, hr⟩ : fi (TX (PD x y).d 0) ∧ ∃ r, 0 ≤ r ∧ r ≤ 9218868437227405311 ∧ (S (PD x y).d - val (TX (PD x y).d 0) = U r ∨ S (PD x y).d - val (TX (PD x y).d 0) = -U r) := by
      rcases Int.lt_or_le (F.abs (TX (PD x y).d 0)) 9218868437227405311 with g | g
      · exact left_p hm a hu n0 n1 e g
      · exact left_max rfl a hu n0 n1 e (by omega)
    have g := fi_neg f
    rw [FT_fi hm h g.2.2]
    have b := fd_p fx fy g
    rw [val_neg f] at b
    have ab := A_abs (fd x y (F.neg (TX (PD x y).d 0)))
    have hU := U_pos r0
    have eA : A (fd x y (F.neg (TX (PD x y).d 0))) = U r := by
      rw [b.2] at ab
      rcases Int.lt_or_le (S (PD x y).d + -val (TX (PD x y).d 0)) 0 with h1 | h1
      · rw [(ab.2 h1).1]; omega
      · rw [(ab.1 h1).1]; omega
    obtain ⟨-, e2, e3⟩ := exact_p hm b.1.ok r0 r1 eA
    rw [if_neg (by omega)]
    exact ⟨_, rfl, e2, by rw [e3, b.2]; omega⟩
  · rw [MT_bc hm h, FT_bc hm h]
    dsimp only
    have c1 := (fi_cls hx).1 fx
    have c2 := (fi_cls hy).1 fy
    have h3 : min (F.cls x) (F.cls y) = 1 := by
      rcases Classical.em (min (F.cls x) (F.cls y) = 1) with h3 | h3
      · exact h3
      · exfalso
        unfold bc at h
        rw [if_neg (by omega), if_neg (by omega), if_neg h3] at h
        cases h
    have e : bc x y = (sp x y, true) := by
      unfold bc
      rw [if_neg (by omega), if_neg (by omega), if_pos h3]
    rw [e]
    dsimp only
    have f : fi (sp x y) ∧ val (sp x y) = 0 := by
      rcases sp2 x y with h | h <;> rw [h]
      · exact val00
      · exact val08
    have v : vs [sp x y, F.neg (sp x y)] = 0 := by simp [vs, val_neg f.1, f.2]
    have hf := f2 f.1 (fi_neg f.1)
    rw [(AT_fin hm (by simp) hf).1 v]
    have z : fi (ZR [sp x y, F.neg (sp x y)] 0) ∧ val (ZR [sp x y, F.neg (sp x y)] 0) = 0 := by
      rcases ZR_zero 0 hf v with e | e
      · rw [e]; exact val00
      · rw [e]; exact val08
    refine ⟨_, rfl, z.1, ?_⟩
    dsimp only
    rw [z.2, f.2]
    obtain ⟨K, hK⟩ : ∃ K : Nat, K = 60000 := ⟨_, rfl⟩
    have p := (pd_p fx fy hK).2.2
    have h0 : val x * val y = 0 := by
      have a := F.cls_bd x
      have b := F.cls_bd y
      rcases (show F.cls x = 1 ∨ F.cls y = 1 by omega) with q | q
      · rw [(val0 fx).2 q, Int.zero_mul]
      · rw [(val0 fy).2 q, Int.mul_zero]
    rw [h0] at p
    have := two_pos' K
    rcases Int.mul_eq_zero.1 p with q | q
    · omega
    · omega
/-- one that has the value of a sum -/
theorem ad_exact {x y z : Int} (fx : fi x) (fy : fi y) (fz : fi z) (h : val z = val x + val y) : fi (ad x y) ∧ val (ad x y) = val z := by
  have hm : 0 ≤ (0 : Int) ∧ (0 : Int) ≤ 4 := by omega
  have hf := f2 fx fy
  have t := tot_ok hf (by simp)
  have v : vs [x, y] = val z := by simp [vs, h]
  have a := AT_fin hm (by simp) hf
  unfold ad
  by_cases h0 : vs [x, y] = 0
  · rw [a.1 h0]
    rcases ZR_zero 0 hf h0 with e | e
    · rw [e]; exact ⟨val00.1, by rw [val00.2]; omega⟩
    · rw [e]; exact ⟨val08.1, by rw [val08.2]; omega⟩
  · rw [a.2 h0]
    have h2 := fi_mod fz
    have ab := A_abs (tot [x, y] dz)
    have r0 : 0 ≤ z % 9223372036854775808 := by omega
    have vz := val_eq fz
    have hU := U_pos r0
    have eA : A (tot [x, y] dz) = U (z % 9223372036854775808) := by
      rw [t.2, v, vz] at ab
      unfold sgm at ab
      cases q : F.sgn z <;> rw [q] at ab <;> simp at ab
      · exact (ab.1 hU).1
      · rcases Int.lt_or_le 0 (U (z % 9223372036854775808)) with g | g
        · have := (ab.2 (by omega)).1; omega
        · have := (ab.1 (by omega)).1; omega
    obtain ⟨-, e2, e3⟩ := exact_p hm t.1 r0 h2 eA
    exact ⟨e2, by rw [e3, t.2, v]⟩
theorem sb_exact {x y z : Int} (fx : fi x) (fy : fi y) (fz : fi z) (h : val z = val x - val y) : fi (sb x y) ∧ val (sb x y) = val z :=
  ad_exact fx (fi_neg fy) fz (by rw [val_neg fy]; omega)
/-- alike values -/
theorem num_same {x y : Int} (fx : fi x) (fy : fi y) (h : val x = val y) : x = y ∨ (F.cls x = 1 ∧ F.cls y = 1) := by
  by_cases h0 : val x = 0
  · exact .inr ⟨(val0 fx).1 h0, (val0 fy).1 (by omega)⟩
  · left
    have hx := fi_mod fx
    have hy := fi_mod fy
    have bx := fx.1; have bx' := fx.2.1
    have b_y := fy.1; have b_y' := fy.2.1
    have vx := val_eq fx
    have vy := val_eq fy
    have ux := U_pos (r := x % 9223372036854775808) (by omega)
    have uy := U_pos (r := y % 9223372036854775808) (by omega)
    have lt := fun a b : Int => U_lt (r := a) (s := b)
    have sx := F.sgn_iff x; have sx' := F.sgn_iff' x
    have sy := F.sgn_iff y; have sy' := F.sgn_iff' y
    have e1 : U (x % 9223372036854775808) = U (y % 9223372036854775808) ∧ F.sgn x = F.sgn y := by
      unfold sgm at vx vy
      cases q1 : F.sgn x <;> cases q2 : F.sgn y <;> rw [q1] at vx <;> rw [q2] at vy <;> simp at vx vy
      · exact ⟨by omega, rfl⟩
      · omega
      · omega
      · exact ⟨by omega, rfl⟩
    have e2 : x % 9223372036854775808 = y % 9223372036854775808 := by
      rcases Int.lt_trichotomy (x % 9223372036854775808) (y % 9223372036854775808) with g | g | g
      · have := U_lt (r := x % 9223372036854775808) (by omega) g; omega
      · exact g
      · have := U_lt (r := y % 9223372036854775808) (by omega) g; omega
    have e3 := e1.2
    clear vx vy e1 lt ux uy h h0
    cases q1 : F.sgn x
    · have := sx'.1 q1; have := sy'.1 (by rw [← e3]; exact q1); omega
    · have := sx.1 q1; have := sy.1 (by rw [← e3]; exact q1); omega
/-- with 0, times 1 -/
theorem zero_sum {x : Int} (fx : fi x) : ∃ s r, T2 x 0 = (s, r, 0) ∧ (s = x ∨ x = 9223372036854775808) ∧ F.cls r = 1 := by
  have z := val00
  obtain ⟨fs, vs'⟩ := ad_exact fx z.1 fx (by rw [z.2]; omega)
  obtain ⟨fa, va⟩ := sb_exact fs z.1 fx (by rw [z.2]; omega)
  obtain ⟨fb, vb⟩ := sb_exact fs fa z.1 (by rw [z.2, va]; omega)
  obtain ⟨fc, vc⟩ := sb_exact fx fa z.1 (by rw [z.2, va]; omega)
  obtain ⟨fd, vd⟩ := sb_exact z.1 fb z.1 (by rw [z.2, vb, z.2]; omega)
  obtain ⟨fr, vr⟩ := ad_exact fc fd z.1 (by rw [z.2, vc, vd, z.2]; omega)
  refine ⟨ad x 0, _, ?_, ?_, (val0 fr).1 (by rw [vr, z.2])⟩
  · unfold T2
    rw [if_neg (by rintro (q | q); exact fx.2.2 q; exact z.1.2.2 q), if_neg fs.2.2]
  · by_cases h0 : val x = 0
    · rcases val_zero fx h0 with rfl | rfl
      · left
        unfold ad
        rw [(AT_fin (by omega) (by simp) (f2 val00.1 val00.1)).1 (by simp [vs, val00.2])]
        decide
      · exact .inr rfl
    · rcases num_same fs fx vs' with q | q
      · exact .inl q
      · exact absurd ((val0 fx).2 q.2) h0
theorem zero_prod {x O : Int} (fx : fi x) (hO : O = 4607182418800017408) : ∃ q, P2 x O = (x, q, 0) ∧ F.cls q = 1 := by
  have hm : 0 ≤ (0 : Int) ∧ (0 : Int) ≤ 4 := by omega
  obtain ⟨K, hK⟩ : ∃ K : Nat, K = 60000 := ⟨_, rfl⟩
  have hx := And.intro fx.1 fx.2.1
  have o := one_val hO hK
  have e := MT_one (mode := 0) hm hx hO
  rw [if_neg (cls_fi.2 fx.2.2).1] at e
  refine ⟨(FT x O (F.neg x) 0).1, ?_, ?_⟩
  · unfold P2
    rw [if_neg (by rintro (q | q); exact fx.2.2 q; exact o.1.2.2 q), e, if_neg fx.2.2]
  · have fn := fi_neg fx
    cases h : (bc x O).2
    · rw [FT_fi hm h fn.2.2, if_neg (by omega)]
      have b := fd_p fx o.1 fn
      have s0 : S (fd x O (F.neg x)) = 0 := by rw [b.2, pd_one fx hO, val_neg fx]; unfold val; omega
      rw [(TX0 hm b.1.ok s0).1]
      show F.cls 0 = 1
      decide
    · rw [FT_bc hm h]
      have e2 := bc_one hx hO
      rw [if_neg (cls_fi.2 fx.2.2).1] at e2
      have h1 : F.cls x = 4 ∨ F.cls x = 1 := by
        rcases Classical.em (F.cls x = 4 ∨ F.cls x = 1) with q | q
        · exact q
        · rw [e2, if_neg q] at h; cases h
      rw [e2, if_pos h1]
      dsimp only
      have v : vs [x, F.neg x] = 0 := by simp [vs, val_neg fx]; omega
      rw [(AT_fin hm (by simp) (f2 fx fn)).1 v]
      exact (ZR_cls 0 (f2 fx fn) v).1
end XC
end Go.Proofs.YtejglcpiihkenaaGreatDoor

