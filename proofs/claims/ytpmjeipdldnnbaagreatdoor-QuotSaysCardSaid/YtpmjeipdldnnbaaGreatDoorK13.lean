/-
  Texts glued together for a claim: V1 V2 V3.
-/
import Derived.Test.YtpmjeipdldnnbaaGreatDoorK8
import Derived.Test.YtpmjeipdldnnbaaGreatDoorK12
import Derived.Test.YtpmjeipdldnnbaaGreatDoorK10
/-
  The document's sum, pure: what is counted; what is told.
-/
namespace Go.Proofs.YtpmjeipdldnnbaaGreatDoor
set_option linter.unusedVariables false
set_option linter.unusedSimpArgs false
open Go.RowKit
set_option linter.unusedVariables false
set_option linter.unusedSimpArgs false
namespace VC
open Z (Nz Tz cmpv big)
open ZC DC RC QC SC
/-- zeros; those with the sign -/
def zc (L : List Int) : Nat := L.countP fun x => x == 0 || x == 9223372036854775808
def sgc (L : List Int) : Nat := L.countP fun x => x == 9223372036854775808
/-- the value of those that have one -/
def vf (x : Int) : Int := if F.exq x = 2047 then 0 else val x
def vsf : List Int → Int
  | [] => 0
  | x :: t => vf x + vsf t
theorem vsf_append (a b : List Int) : vsf (a ++ b) = vsf a + vsf b := by
  induction a with
  | nil => simp [vsf]
  | cons x t ih => simp [vsf, ih]; omega
/-- one more -/
theorem zc_snoc (L : List Int) (x : Int) : zc (L ++ [x]) = zc L + (if x = 0 ∨ x = 9223372036854775808 then 1 else 0) := by
  unfold zc
  rw [List.countP_append]
  by_cases h : x = 0 ∨ x = 9223372036854775808
  · rw [if_pos h]; rcases h with rfl | rfl <;> rfl
  · rw [if_neg h]
    have : (x == 0 || x == 9223372036854775808) = false := by
      rw [Bool.or_eq_false_iff, beq_eq_false_iff_ne, beq_eq_false_iff_ne]
      exact ⟨fun h2 => h (.inl h2), fun h2 => h (.inr h2)⟩
    simp [List.countP_cons, this]
theorem sgc_snoc (L : List Int) (x : Int) : sgc (L ++ [x]) = sgc L + (if x = 9223372036854775808 then 1 else 0) := by
  unfold sgc
  rw [List.countP_append]
  by_cases h : x = 9223372036854775808
  · rw [if_pos h, h]; rfl
  · rw [if_neg h]
    have : (x == 9223372036854775808) = false := by rw [beq_eq_false_iff_ne]; exact h
    simp [List.countP_cons, this]
theorem any_snoc (L : List Int) (x : Int) : hN (L ++ [x]) = (hN L || F.cls x == 5) ∧ hP (L ++ [x]) = (hP L || x == 9218868437227405312) ∧ hM (L ++ [x]) = (hM L || x == 18442240474082181120) := by
  unfold hN hP hM
  rw [List.any_append, List.any_append, List.any_append]
  simp
end VC
end Go.Proofs.YtpmjeipdldnnbaaGreatDoor

/-
  The document's sum: its parts.
-/
namespace Go.Proofs.YtpmjeipdldnnbaaGreatDoor
set_option linter.unusedVariables false
set_option linter.unusedSimpArgs false
open Go.RowKit
set_option linter.unusedVariables false
set_option linter.unusedSimpArgs false
namespace VC
open Z (Nz Tz cmpv big)
open ZC DC RC QC SC
theorem IsNan_c (x : Int) (h0 : 0 ≤ x) (h1 : x ≤ 18446744073709551615) (w : World) : Calls Tryz.prog 22 #[.int .u64 x] w fun e w' => e = .returned (.bool (F.cls x == 5)) ∧ w = w' := by
  have CO := Lib.hid (FloatR.ClassOf_c x h0 h1 w)
  generalize F.cls x = c at *
  go_enter Tryz.func22, Tryz.ntmps22
  go_wp2_with (go_at_call 54; (with_reducible refine (CO.out).mono ?_); rintro e w2 ⟨rfl, rfl⟩)
  go_ret
  exact ⟨rfl, rfl⟩
theorem IsInf_c (x : Int) (h0 : 0 ≤ x) (h1 : x ≤ 18446744073709551615) (w : World) : Calls Tryz.prog 23 #[.int .u64 x] w fun e w' => e = .returned (.bool (F.cls x == 4)) ∧ w = w' := by
  have CO := Lib.hid (FloatR.ClassOf_c x h0 h1 w)
  generalize F.cls x = c at *
  go_enter Tryz.func23, Tryz.ntmps23
  go_wp2_with (go_at_call 54; (with_reducible refine (CO.out).mono ?_); rintro e w2 ⟨rfl, rfl⟩)
  go_ret
  exact ⟨rfl, rfl⟩
theorem Minus_c (x : Int) (w : World) : Calls Tryz.prog 21 #[.int .u64 x] w fun e w' => e = .returned (.bool (decide (9223372036854775808 ≤ x))) ∧ w = w' := by
  go_enter Tryz.func21, Tryz.ntmps21
  go_wp2
  go_ret
  exact ⟨rfl, rfl⟩
theorem Signed_c (x : Int) (b : Bool) (w : World) (h0 : 0 ≤ x) (h1 : x < 9223372036854775808) : Calls Tryz.prog 26 #[.int .u64 x, .bool b] w fun e w' => e = .returned (.int .u64 (if b = true then x + 9223372036854775808 else x)) ∧ w = w' := by
  have i1 : IntKind.u64.wrap (x + 9223372036854775808) = x + 9223372036854775808 := IntWalk.u64_in _ (by omega)
  cases b
  · go_enter Tryz.func26, Tryz.ntmps26
    go_wp2
    go_ret
    exact ⟨rfl, rfl⟩
  · go_enter Tryz.func26, Tryz.ntmps26
    go_wp2
    go_ret
    exact ⟨rfl, rfl⟩
theorem QuietNan_c (w : World) : Calls Tryz.prog 25 #[] w fun e w' => e = .returned (.int .u64 9221120237041090560) ∧ w = w' := by
  go_enter Tryz.func25, Tryz.ntmps25
  go_wp2
  go_ret
  exact ⟨rfl, rfl⟩
theorem InfBits_c (w : World) : Calls Tryz.prog 27 #[] w fun e w' => e = .returned (.int .u64 9218868437227405312) ∧ w = w' := by
  go_enter Tryz.func27, Tryz.ntmps27
  go_wp2
  go_ret
  exact ⟨rfl, rfl⟩
theorem QVal_m {M : Nat} (hM : M = 2200) (x : Int) (w : World) (h : fi x) : Calls Tryz.prog 29 #[.int .u64 x] w (RetSF M 1100 w (val x)) := by
  have hb := F.exq_bd x
  have hf := F.fra_bd x
  have mb : 0 ≤ mant x ∧ mant x < 9007199254740992 := by unfold mant; split <;> omega
  have ub : -1074 ≤ F.ulp x ∧ F.ulp x ≤ 972 := by unfold F.ulp; split <;> omega
  have e1 := (of_p h.1 h.2.1 h.2.2).1
  have e : val x = sc (sgm (F.sgn x) (mant x)) (F.ulp x) := by
    unfold val S
    unfold OfD at e1 ⊢
    rw [if_neg h.2.2] at e1 ⊢
    exact fin_sc (by omega) e1
  rw [e]
  have ha : (sgm (F.sgn x) (mant x)).natAbs < 2 ^ 53 := by
    have h2 : (2 : Nat) ^ 53 = 9007199254740992 := by decide
    unfold sgm
    rw [h2]
    split <;> omega
  refine (QVal_f x w h.1 h.2.1).mono fun en w' hr => ?_
  obtain ⟨b9, A9, n9, c9, rfl, hr, hf9, hb9⟩ := hr
  have := mkt_bd (F.ulp x) 1074 (by omega)
  have hz := mkz_lt (M := 53) (E := 972) (e := F.ulp x) ha (by omega)
  obtain ⟨J, hJ⟩ : ∃ J : Nat, J = 53 + 972 := ⟨_, rfl⟩
  rw [← hJ] at hz
  have hlt : (2 : Nat) ^ J ≤ 2 ^ M := Nat.pow_le_pow_right (by decide) (by omega)
  exact ⟨b9, A9, n9, c9, _, _, rfl, hr, Nat.lt_of_lt_of_le hz hlt, this.1, by omega, mk_sc _ _ (by omega), hf9, hb9⟩
theorem QVal_v (x : Int) (w : World) (h : fi x) : Calls Tryz.prog 29 #[.int .u64 x] w (RetSF 2200 1100 w (val x)) := QVal_m rfl x w h
end VC
end Go.Proofs.YtpmjeipdldnnbaaGreatDoor

/-
  The document's sum of a list.
-/
namespace Go.Proofs.YtpmjeipdldnnbaaGreatDoor
set_option linter.unusedVariables false
set_option linter.unusedSimpArgs false
open Go.RowKit
set_option linter.unusedVariables false
set_option linter.unusedSimpArgs false
namespace VC
open Z (Nz Tz cmpv big)
open ZC DC RC QC SC
/-- what the loop of SumOf keeps: the box of the sum, its value -/
structure SI (w W : World) (b : Bool) (A : Option Addr) (n c : Nat) (t s : Int) : Prop where
  k : Blk W w.heap.size 57 #[.bool b, .slice A n c, .int .i64 t]
  q : QS 2200 1100 W (.agg #[.bool b, .slice A n c, .int .i64 t]) s
  b : Below w.heap.size w W
theorem SI.below {w W W' : World} {b A n c t s} (h : SI w W b A n c t s) (hb : Below W.heap.size W W') : SI w W' b A n c t s := ⟨h.k.below hb h.k.lt, h.q.below hb, h.b.trans (hb.mono h.b.size)⟩
theorem SI.set {w W V : World} {b A n c t s b' A' n' c'} {t' z' s' : Int} (h : SI w W b A n c t s) (hV : Below V.heap.size V W) (hg : w.heap.size < V.heap.size) (hz : ZL W b' A' n' c' z') (k1 : z'.natAbs < 2 ^ 2200) (k2 : 0 ≤ t') (k3 : t' ≤ 1100) (k4 : sc z' (-t') = s') (hf : Fr V.heap.size A' n') :
    SI w (((W.setCell ⟨w.heap.size, 0, none⟩ (.bool b')).setCell ⟨w.heap.size, 1, none⟩ (.slice A' n' c')).setCell ⟨w.heap.size, 2, none⟩ (.int .i64 t')) b' A' n' c' t' s' :=
  ⟨blk3 h.k _ _ _, ⟨z', t', ⟨b', A', n', c', rfl, QC.set3 hz (off_new hf hg) _ _ _⟩, k1, k2, k3, k4⟩, below3q h.b (Nat.le_refl _) _ _ _⟩
theorem fi_flags {x : Int} (h : fi x) : (F.cls x == 5) = false ∧ (F.cls x == 4) = false ∧ (x == 9218868437227405312) = false ∧ (x == 18442240474082181120) = false := by
  have h1 := cls_fi.2 h.2.2
  have h2 := fi_mod h
  refine ⟨by simp [h1.1], by simp [h1.2], ?_, ?_⟩ <;> rw [beq_eq_false_iff_ne] <;> rintro rfl <;> simp at h2
/-- one round: what becomes of the counts -/
def st (L : List Int) (p m n : Bool) (z s : Int) : Prop := p = hP L ∧ m = hM L ∧ n = hN L ∧ z = zc L ∧ s = sgc L
theorem st_fi {L : List Int} {x : Int} {p m n : Bool} {z s : Int} (h : st L p m n z s) (hx : fi x) :
    st (L ++ [x]) p m n (z + if x = 0 ∨ x = 9223372036854775808 then 1 else 0) (s + if x = 9223372036854775808 then 1 else 0) ∧ vsf (L ++ [x]) = vsf L + val x := by
  obtain ⟨rfl, rfl, rfl, rfl, rfl⟩ := h
  have a := any_snoc L x
  obtain ⟨f1, f2, f3, f4⟩ := fi_flags hx
  refine ⟨⟨?_, ?_, ?_, ?_, ?_⟩, ?_⟩
  · rw [a.2.1, f3]; simp
  · rw [a.2.2, f4]; simp
  · rw [a.1, f1]; simp
  · rw [zc_snoc]; split <;> simp
  · rw [sgc_snoc]; split <;> simp
  · rw [vsf_append]; simp [vsf, vf, hx.2.2]
end VC
end Go.Proofs.YtpmjeipdldnnbaaGreatDoor

