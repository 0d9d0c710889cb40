/-
  Package prod, pure: one; turned; in order; powers of two; what is exact.
-/
import Derived.Test.YtpmjeipdldnnbaaDoorP1
namespace Go.Proofs.YtpmjeipdldnnbaaDoor
set_option linter.unusedVariables false
set_option linter.unusedSimpArgs false
open Go.RowKit
set_option linter.unusedVariables false
set_option linter.unusedSimpArgs false
namespace PC
open L NC NK DC RC SC
/-- a power of two as a number -/
theorem pow_val {p k : Int} (hk : -1022 ≤ k) (hk' : k ≤ 1023) (hp : p = (1023 + k) * 4503599627370496) : fi p ∧ val p = sc 1 k ∧ F.sgn p = false ∧ F.cls p = 3 := by
  have fp : fi p := fi_of (by omega) (by omega) (by omega)
  obtain ⟨j, hj⟩ : ∃ j : Nat, (j : Int) = 1022 + k := ⟨(1022 + k).toNat, by omega⟩
  have u := (U_of (k := j) (q := 4503599627370496) (by omega) (by omega) (by omega)).1
  rw [show (j : Int) * 4503599627370496 + 4503599627370496 = p by omega] at u
  have hs : F.sgn p = false := F.sgn_f (by omega)
  refine ⟨fp, ?_, hs, ?_⟩
  · rw [val_eq fp, hs, show p % 9223372036854775808 = p by omega, u]
    unfold sgm
    rw [← sc_mul1, show (4503599627370496 : Int) = 2 ^ 52 by decide, sc_two 52 _ (by omega)]
    simp
    congr 1; omega
  · unfold F.cls F.exq
    rw [if_neg (by omega), if_pos (by omega)]
theorem one_val {O : Int} (hO : O = 4607182418800017408) {K : Nat} (hK : K = 60000) : fi O ∧ val O = 2 ^ K ∧ F.sgn O = false ∧ F.cls O = 3 := by
  have h := pow_val (p := O) (k := 0) (by omega) (by omega) (by omega)
  refine ⟨h.1, ?_, h.2.2⟩
  rw [h.2.1]
  unfold sc
  rw [Int.one_mul]
  congr 1; omega
theorem pd_one {x O : Int} (hx : fi x) (hO : O = 4607182418800017408) : (PD x O).d = (OfD x).d := by
  obtain ⟨K, hK⟩ : ∃ K : Nat, K = 60000 := ⟨_, rfl⟩
  have o := one_val hO hK
  have a := pd_p hx o.1 hK
  have b := of_fit hx
  refine S_inj a.2.1.ok b.2.ok (K_inj (K := K) ?_)
  rw [a.2.2, o.2.1]; rfl
theorem bc_one {x O : Int} (hx : 0 ≤ x ∧ x ≤ 18446744073709551615) (hO : O = 4607182418800017408) : bc x O = if F.cls x = 5 then (9221120237041090560, true) else if F.cls x = 4 ∨ F.cls x = 1 then (x, true) else (0, false) := by
  obtain ⟨K, hK⟩ : ∃ K : Nat, K = 60000 := ⟨_, rfl⟩
  have o := one_val hO hK
  have a := F.cls_bd x
  have ci := cls_inf hx.1 hx.2
  have c1 := cls1 hx.1 hx.2
  have es : sp x O = if F.sgn x = false then 0 else 9223372036854775808 := by unfold sp; rw [o.2.2.1]
  unfold bc
  rw [o.2.2.2, es]
  by_cases h5 : F.cls x = 5
  · rw [if_pos (by omega), if_pos h5]
  · rw [if_neg (by omega), if_neg h5]
    by_cases h4 : F.cls x = 4
    · rw [if_pos (by omega), if_pos (show F.cls x = 4 ∨ F.cls x = 1 from .inl h4)]
      rcases ci.1 h4 with rfl | rfl
      · simp [F.sgn]
      · simp [F.sgn]
    · rw [if_neg (by omega)]
      by_cases h1 : F.cls x = 1
      · rw [if_pos (by omega), if_pos (show F.cls x = 4 ∨ F.cls x = 1 from .inr h1)]
        rcases c1.1 h1 with rfl | rfl
        · simp [F.sgn]
        · simp [F.sgn]
      · rw [if_neg (by omega), if_neg (by omega)]
theorem MT_one {x mode O : Int} (hm : 0 ≤ mode ∧ mode ≤ 4) (hx : 0 ≤ x ∧ x ≤ 18446744073709551615) (hO : O = 4607182418800017408) : MT x O mode = (if F.cls x = 5 then 9221120237041090560 else x, false, 0) := by
  obtain ⟨K, hK⟩ : ∃ K : Nat, K = 60000 := ⟨_, rfl⟩
  have o := one_val hO hK
  have e := bc_one hx hO
  cases h : (bc x O).2
  · rw [MT_fi hm h]
    obtain ⟨f, -, h0, -⟩ := (bc_no hx ⟨o.1.1, o.1.2.1⟩).1 h
    have s := same_p f.1 f.2.1 f.2.2 hm
    have h5 : F.cls x ≠ 5 := (cls_fi.2 f.2.2).1
    rw [pd_one f hO, if_neg h5, s.2.1]
    rcases s.2.2 with h1 | ⟨-, rfl, -⟩
    · rw [eq_of_beq h1]
    · exact absurd val08.2 h0
  · rw [MT_bc hm h, e]
    rw [e] at h
    by_cases h5 : F.cls x = 5
    · rw [if_pos h5, if_pos h5]
    · rw [if_neg h5] at h ⊢
      rw [if_neg h5]
      by_cases h4 : F.cls x = 4 ∨ F.cls x = 1
      · rw [if_pos h4]
      · rw [if_neg h4] at h; cases h
theorem S_m' {d : Dy} : d.m = 0 ↔ S d = 0 := sc_zero.symm
theorem pd_ne {x y : Int} (hx : fi x) (hy : fi y) (h0 : val x ≠ 0) (h1 : val y ≠ 0) : (PD x y).d.m ≠ 0 := by
  obtain ⟨K, hK⟩ : ∃ K : Nat, K = 60000 := ⟨_, rfl⟩
  have a := pd_p hx hy hK
  intro h
  rw [S_m'] at h
  rw [h, Int.zero_mul] at a
  rcases Int.mul_eq_zero.1 a.2.2.symm with h2 | h2
  · exact h0 h2
  · exact h1 h2
theorem TX_cls {d : Dy} {mode : Int} (h : Ok d) : F.cls (TX d mode) ≠ 5 := cls_nn.2 (TX_bd d mode fun _ => h).2.2
/-- turned -/
theorem mul_turn {x y mode : Int} (hm : 0 ≤ mode ∧ mode ≤ 4) (hx : 0 ≤ x ∧ x ≤ 18446744073709551615) (hy : 0 ≤ y ∧ y ≤ 18446744073709551615) :
    ∃ a b g, MT x y mode = (a, b, 0) ∧ MT (F.neg x) y (tm mode) = (g, b, 0) ∧ ((F.cls a = 5 ∧ g = 9221120237041090560) ∨ (F.cls a ≠ 5 ∧ g = F.neg a)) := by
  have hm' : 0 ≤ tm mode ∧ tm mode ≤ 4 := by unfold tm; split; omega; split <;> omega
  have hx' := F.neg_bd x hx.1 hx.2
  have eb : bc (F.neg x) y = if max (F.cls x) (F.cls y) = 5 ∨ (max (F.cls x) (F.cls y) = 4 ∧ min (F.cls x) (F.cls y) = 1) then (9221120237041090560, true)
      else if max (F.cls x) (F.cls y) = 4 then (F.neg (sp x y + 9218868437227405312), true)
      else if min (F.cls x) (F.cls y) = 1 then (F.neg (sp x y), true) else (0, false) := by
    unfold bc
    rw [F.cls_neg, sp_neg' hx, sp_neg hx]
  have e0 : bc x y = if max (F.cls x) (F.cls y) = 5 ∨ (max (F.cls x) (F.cls y) = 4 ∧ min (F.cls x) (F.cls y) = 1) then (9221120237041090560, true)
      else if max (F.cls x) (F.cls y) = 4 then (sp x y + 9218868437227405312, true)
      else if min (F.cls x) (F.cls y) = 1 then (sp x y, true) else (0, false) := rfl
  by_cases h1 : max (F.cls x) (F.cls y) = 5 ∨ (max (F.cls x) (F.cls y) = 4 ∧ min (F.cls x) (F.cls y) = 1)
  · rw [if_pos h1] at eb e0
    rw [MT_bc hm (by rw [e0]), MT_bc hm' (by rw [eb]), e0, eb]
    exact ⟨_, _, _, rfl, rfl, .inl ⟨by decide, rfl⟩⟩
  · rw [if_neg h1] at eb e0
    by_cases h2 : max (F.cls x) (F.cls y) = 4
    · rw [if_pos h2] at eb e0
      rw [MT_bc hm (by rw [e0]), MT_bc hm' (by rw [eb]), e0, eb]
      refine ⟨_, _, _, rfl, rfl, .inr ⟨?_, rfl⟩⟩
      rcases sp2 x y with h | h <;> rw [h] <;> decide
    · rw [if_neg h2] at eb e0
      by_cases h3 : min (F.cls x) (F.cls y) = 1
      · rw [if_pos h3] at eb e0
        rw [MT_bc hm (by rw [e0]), MT_bc hm' (by rw [eb]), e0, eb]
        refine ⟨_, _, _, rfl, rfl, .inr ⟨?_, rfl⟩⟩
        rcases sp2 x y with h | h <;> rw [h] <;> decide
      · rw [if_neg h3] at eb e0
        have n1 : (bc x y).2 = false := by rw [e0]
        have n2 : (bc (F.neg x) y).2 = false := by rw [eb]
        obtain ⟨f, g, k0, k1⟩ := (bc_no hx hy).1 n1
        rw [MT_fi hm n1, MT_fi hm' n2, pd_neg f g]
        have a := (pd_p f g rfl).2.1.ok
        have t := turned_p a (pd_ne f g k0 k1) hm
        rw [t.2.2.1, t.2.2.2]
        exact ⟨_, _, _, rfl, rfl, .inr ⟨TX_cls a, rfl⟩⟩
/-- in order -/
theorem rnk0 {x : Int} (hx : fi x) (h : F.cls x = 1) : F.rnk x = 0 := by
  rcases (cls1 hx.1 hx.2.1).1 h with rfl | rfl <;> decide
theorem MT_rnk {x z mode : Int} (hm : 0 ≤ mode ∧ mode ≤ 4) (hx : fi x) (hz : fi z) : F.rnk (MT x z mode).1 = F.rnk (TX (PD x z).d mode) := by
  obtain ⟨K, hK⟩ : ∃ K : Nat, K = 60000 := ⟨_, rfl⟩
  have hx' := And.intro hx.1 hx.2.1
  have hz' := And.intro hz.1 hz.2.1
  cases h : (bc x z).2
  · rw [MT_fi hm h]
  · rw [MT_bc hm h]
    have a := pd_p hx hz hK
    have c1 := (fi_cls hx').1 hx
    have c2 := (fi_cls hz').1 hz
    have h3 : min (F.cls x) (F.cls z) = 1 := by
      rcases Classical.em (min (F.cls x) (F.cls z) = 1) with h3 | h3
      · exact h3
      · exfalso
        unfold bc at h
        rw [if_neg (by omega), if_neg (by omega), if_neg h3] at h
        cases h
    have e : bc x z = (sp x z, true) := by
      unfold bc
      rw [if_neg (by omega), if_neg (by omega), if_pos h3]
    have h0 : S (PD x z).d = 0 := by
      apply K_inj (K := K)
      rw [a.2.2, Int.zero_mul, Int.mul_eq_zero, val0 hx, val0 hz]
      omega
    rw [e, TX_zero hm a.2.1.ok h0]
    show F.rnk (sp x z) = 0
    rcases sp2 x z with h | h <;> rw [h] <;> decide
theorem order_mul {x y z mode : Int} (hm : 0 ≤ mode ∧ mode ≤ 4) (hx : 0 ≤ x ∧ x ≤ 18446744073709551615) (hy : 0 ≤ y ∧ y ≤ 18446744073709551615) (hz : 0 ≤ z ∧ z ≤ 18446744073709551615) (nx : F.nn x) (ny : F.nn y) (nz : F.nn z) (h : F.rnk x ≤ F.rnk y) (h0 : 0 ≤ F.rnk z)
    (na : F.nn (MT x z mode).1) (nb : F.nn (MT y z mode).1) : F.rnk (MT x z mode).1 ≤ F.rnk (MT y z mode).1 := by
  have c5 : F.cls (9221120237041090560 : Int) = 5 := by decide
  have l1 := rnk_lim (MT_bd mode hx hz) na
  have l2 := rnk_lim (MT_bd mode hy hz) nb
  have kk : ∀ a : Int, 0 ≤ a ∧ a ≤ 18446744073709551615 → F.nn a → fi a ∨ a = 9218868437227405312 ∨ a = 18442240474082181120 := fun a ha hn => by
    by_cases h4 : F.cls a = 4
    · exact .inr ((cls_inf ha.1 ha.2).1 h4)
    · exact .inl ⟨ha.1, ha.2, cls_fi.1 ⟨cls_nn.2 hn, h4⟩⟩
  have r9 : F.rnk 9218868437227405312 = 9218868437227405312 := rP
  -- an infinite one
  have inf : ∀ a : Int, 0 ≤ a ∧ a ≤ 18446744073709551615 → F.nn a → F.nn (MT a z mode).1 → (a = 9218868437227405312 → (MT a z mode).1 = 9218868437227405312) ∧ (a = 18442240474082181120 → (MT a z mode).1 = 18442240474082181120) := by
    intro a ha hna hn
    have hs : F.sgn z = false ∨ F.cls z = 1 := by
      have : z ≤ 9223372036854775808 := by unfold F.rnk at h0; split at h0 <;> omega
      rcases Int.lt_or_eq_of_le this with h1 | rfl
      · exact .inl (F.sgn_f h1)
      · exact .inr (by decide)
    have c := F.cls_bd z
    have n5 := cls_nn.2 nz
    constructor
    · rintro rfl
      have c4 : F.cls (9218868437227405312 : Int) = 4 := by decide
      by_cases h1 : F.cls z = 1
      · exfalso
        have e : bc 9218868437227405312 z = (9221120237041090560, true) := by unfold bc; rw [c4, if_pos (by omega)]
        rw [MT_bc hm (by rw [e]), e] at hn
        exact absurd hn (by unfold F.nn; decide)
      · have e : bc 9218868437227405312 z = (9218868437227405312, true) := by
          unfold bc sp
          rw [c4, if_neg (by omega), if_pos (by omega), if_pos (by rw [hs.resolve_right h1]; decide)]; rfl
        rw [MT_bc hm (by rw [e]), e]
    · rintro rfl
      have c4 : F.cls (18442240474082181120 : Int) = 4 := by decide
      by_cases h1 : F.cls z = 1
      · exfalso
        have e : bc 18442240474082181120 z = (9221120237041090560, true) := by unfold bc; rw [c4, if_pos (by omega)]
        rw [MT_bc hm (by rw [e]), e] at hn
        exact absurd hn (by unfold F.nn; decide)
      · have e : bc 18442240474082181120 z = (18442240474082181120, true) := by
          unfold bc sp
          rw [c4, if_neg (by omega), if_pos (by omega), if_neg (by rw [hs.resolve_right h1]; decide)]; rfl
        rw [MT_bc hm (by rw [e]), e]
  rcases kk z hz nz with fz | rfl | rfl
  · rcases kk x hx nx with fx | rfl | rfl
    · rcases kk y hy ny with fy | rfl | rfl
      · rw [MT_rnk hm fx fz, MT_rnk hm fy fz]
        obtain ⟨K, hK⟩ : ∃ K : Nat, K = 60000 := ⟨_, rfl⟩
        have a := pd_p fx fz hK
        have b := pd_p fy fz hK
        apply order_p a.2.1.ok b.2.1.ok hm
        apply Int.le_of_mul_le_mul_right _ (two_pos' K)
        rw [a.2.2, b.2.2]
        exact Int.mul_le_mul_of_nonneg_right (val_le fx fy h) (val_pos fz h0)
      · rw [(inf _ hy ny nb).1 rfl, r9]; exact l1.2
      · have := rnk_fi fx; rw [rM] at h; omega
    · have hy9 : y = 9218868437227405312 := by
        rcases kk y hy ny with fy | rfl | rfl
        · have := rnk_fi fy; rw [r9] at h; omega
        · rfl
        · rw [r9, rM] at h; omega
      subst hy9
      exact Int.le_refl _
    · rw [(inf _ hx nx na).2 rfl, rM]; exact l2.1
  · -- times Inf
    have c4 : F.cls (9218868437227405312 : Int) = 4 := by decide
    have s9 : F.sgn (9218868437227405312 : Int) = false := by decide
    have val' : ∀ a : Int, 0 ≤ a ∧ a ≤ 18446744073709551615 → F.nn a → F.nn (MT a 9218868437227405312 mode).1 → F.cls a ≠ 1 ∧ (MT a 9218868437227405312 mode).1 = if F.sgn a = false then 9218868437227405312 else 18442240474082181120 := by
      intro a ha hna hn
      have c := F.cls_bd a
      have n5 := cls_nn.2 hna
      have h1 : F.cls a ≠ 1 := fun h1 => by
        have e : bc a 9218868437227405312 = (9221120237041090560, true) := by unfold bc; rw [c4, if_pos (by omega)]
        rw [MT_bc hm (by rw [e]), e] at hn
        exact absurd hn (by unfold F.nn; decide)
      refine ⟨h1, ?_⟩
      have e : bc a 9218868437227405312 = (sp a 9218868437227405312 + 9218868437227405312, true) := by
        unfold bc
        rw [c4, if_neg (by omega), if_pos (by omega)]
      rw [MT_bc hm (by rw [e]), e]
      unfold sp
      rw [s9]
      split <;> rfl
    obtain ⟨x1, x2⟩ := val' x hx nx na
    obtain ⟨y1, y2⟩ := val' y hy ny nb
    rw [x2, y2]
    cases hsx : F.sgn x
    · cases hsy : F.sgn y
      · exact Int.le_refl _
      · exfalso
        have a := (F.sgn_iff' x).1 hsx
        have b := (F.sgn_iff y).1 hsy
        have c := mt (cls1 hx.1 hx.2).2 x1
        have d := mt (cls1 hy.1 hy.2).2 y1
        unfold F.rnk at h
        rw [if_pos a, if_neg (by omega)] at h
        omega
    · cases hsy : F.sgn y
      · decide
      · exact Int.le_refl _
  · exfalso; rw [rM] at h0; omega
/-- times a power of two -/
theorem mk_val {s : Bool} {e f w : Int} (he : 1 ≤ e ∧ e ≤ 2046) (hf : 0 ≤ f ∧ f ≤ 4503599627370495) (hw : w = F.mk s e f) : fi w ∧ val w = sgm s (sc (4503599627370496 + f) (e - 1075)) := by
  have bd := F.mk_bd s e f (by omega) (by omega) hf.1 hf.2
  have e1 := F.exq_mk s e f (by omega) (by omega) hf.1 hf.2
  have e3 := F.sgn_mk s e f (by omega) (by omega) hf.1 hf.2
  have e2 := F.fra_mk s e f (by omega) (by omega) hf.1 hf.2
  rw [← hw] at bd e1 e2 e3
  have fw : fi w := ⟨bd.1, bd.2, by omega⟩
  refine ⟨fw, ?_⟩
  have hr : w % 9223372036854775808 = e * 4503599627370496 + f := by rw [← e1, ← e2]; unfold F.exq F.fra; omega
  obtain ⟨j, hj⟩ : ∃ j : Nat, (j : Int) = e - 1 := ⟨(e - 1).toNat, by omega⟩
  have u := (U_of (k := j) (q := 4503599627370496 + f) (by omega) (by omega) (by omega)).1
  rw [show (j : Int) * 4503599627370496 + (4503599627370496 + f) = e * 4503599627370496 + f by omega, show (j : Int) - 1074 = e - 1075 by omega, ← sc_mul1] at u
  rw [val_eq fw, e3, hr, u]
theorem powers_p {x k mode p w : Int} (hm : 0 ≤ mode ∧ mode ≤ 4) (hx : 0 ≤ x ∧ x ≤ 18446744073709551615) (hc : F.cls x = 3) (hk : -1022 ≤ k) (hk' : k ≤ 1023) (he : 1 ≤ F.exq x + k) (he' : F.exq x + k ≤ 2046)
    (hp : p = (1023 + k) * 4503599627370496) (hw : w = F.mk (F.sgn x) (F.exq x + k) (F.fra x)) : MT x p mode = (w, false, 0) := by
  obtain ⟨K, hK⟩ : ∃ K : Nat, K = 60000 := ⟨_, rfl⟩
  have vp := pow_val hk hk' hp
  have fx : fi x := (fi_cls hx).2 (by omega)
  have hq := F.exq_bd x
  have hf := F.fra_bd x
  have h1 : 1 ≤ F.exq x ∧ F.exq x ≤ 2046 := by
    refine ⟨?_, by have := fx.2.2; omega⟩
    rcases Int.lt_or_eq_of_le hq.1 with h | h
    · omega
    · exfalso
      unfold F.cls at hc
      rw [if_pos h.symm] at hc
      split at hc <;> omega
  have vw := mk_val ⟨he, he'⟩ hf hw
  have vx := mk_val (s := F.sgn x) (w := x) h1 hf (F.mk_parts x hx.1 hx.2).symm
  have a := pd_p fx vp.1 hK
  have b := of_fit vw.1
  have e1 := sc_mul (m := 4503599627370496 + F.fra x) (n := 1) (x := F.exq x - 1075) (y := k) (by omega) (by omega) hK
  rw [Int.mul_one, show F.exq x - 1075 + k = F.exq x + k - 1075 by omega] at e1
  have ed : (PD x p).d = (OfD w).d := by
    refine S_inj a.2.1.ok b.2.ok (K_inj (K := K) ?_)
    rw [a.2.2, vp.2.1, vx.2]
    show _ = val w * 2 ^ K
    rw [vw.2]
    unfold sgm
    cases F.sgn x
    · simp; exact e1.symm
    · simp; rw [Int.neg_mul, Int.neg_mul, e1]
  have n3 : F.cls w ≠ 1 := by
    have ew := F.exq_mk (F.sgn x) (F.exq x + k) (F.fra x) (by omega) (by omega) hf.1 hf.2
    rw [← hw] at ew
    unfold F.cls
    rw [if_neg (by omega)]
    split <;> (try split) <;> omega
  have nb : (bc x p).2 = false := by
    rw [bc_no hx ⟨vp.1.1, vp.1.2.1⟩]
    refine ⟨fx, vp.1, fun h => ?_, fun h => ?_⟩
    · rw [val0 fx] at h; omega
    · rw [val0 vp.1] at h; omega
  rw [MT_fi hm nb, ed]
  have s := same_p vw.1.1 vw.1.2.1 vw.1.2.2 hm
  rw [s.2.1]
  rcases s.2.2 with h1 | ⟨-, rfl, -⟩
  · rw [eq_of_beq h1]
  · exact absurd (by decide) n3
/-- nothing is lost just if it is exact -/
theorem val_rx {b : Bool} {r : Int} (r0 : 0 ≤ r) (r1 : r ≤ 9218868437227405311) : fi (rx b r) ∧ val (rx b r) = sgm b (U r) := by
  have bd := rx_bd (b := b) r0 (show r ≤ 9218868437227405312 by omega)
  have hmod : rx b r % 9223372036854775808 = r ∧ F.sgn (rx b r) = b := by
    unfold rx F.neg F.sgn
    cases b
    · simp; omega
    · simp; rw [if_pos (by omega)]; omega
  have hf : fi (rx b r) := fi_of bd.1 bd.2.1 (by rw [hmod.1]; omega)
  exact ⟨hf, by rw [val_eq hf, hmod.1, hmod.2]⟩
theorem S_sg (d : Dy) : S d = sgm (ng d) (A d) ∧ 0 ≤ A d := by
  have a := A_abs d
  rcases Int.lt_or_le (S d) 0 with h | h
  · rw [(a.2 h).1, (a.2 h).2]; unfold sgm; simp; omega
  · rw [(a.1 h).1, (a.1 h).2]; unfold sgm; simp; omega
theorem exact_iff {d : Dy} {mode : Int} (hm : 0 ≤ mode ∧ mode ≤ 4) (h : Ok d) : TL d mode = false ↔ (fi (TX d mode) ∧ val (TX d mode) = S d) := by
  constructor
  · intro hl
    obtain ⟨r, hf, m, t, -⟩ := towA h
    rw [(TX_of h hm t).2.1] at hl
    have e1 : hf = false := by cases hf <;> simp_all
    have e2 : m = false := by cases m <;> simp_all
    have q1 := t.hh
    have q2 := t.hm
    rw [e1] at q1
    rw [e2] at q2
    have q1' := of_decide_eq_false q1.symm
    have q2' := of_decide_eq_false q2.symm
    have lo := t.lo
    have e : A d = U r := by
      rcases Classical.em (A d = U r) with h | h
      · exact h
      · exfalso; apply q2'; exact ⟨h, by omega⟩
    exact (exact_p hm h t.r0 t.r1 e).2
  · rintro ⟨f, hv⟩
    have hr := fi_mod f
    have ev := val_eq f
    have s := S_sg d
    have e : A d = U (TX d mode % 9223372036854775808) := by
      have hU := U_pos (r := TX d mode % 9223372036854775808) (by omega)
      rw [hv, s.1] at ev
      have s2 := s.2
      unfold sgm at ev
      split at ev <;> split at ev <;> omega
    exact (exact_p hm h (by omega) hr e).1
end PC
end Go.Proofs.YtpmjeipdldnnbaaDoor
