/-
  Texts glued together for a claim: V1 V2 V3 V4.
-/
import Derived.Test.YtelblhgagpkjmaaGreatDoorF8
import Derived.Test.YtelblhgagpkjmaaGreatDoorF20
import Derived.Test.YtelblhgagpkjmaaGreatDoorF18
/-
  The document's sum, pure: what is counted; what is told.
-/
namespace Go.Proofs.YtelblhgagpkjmaaGreatDoor
set_option linter.unusedVariables false
set_option linter.unusedSimpArgs false
open Go.RowKit
set_option linter.unusedVariables false
set_option linter.unusedSimpArgs false
namespace VC
open Z (Nz Tz cmpv big)
open ZC DC RC QC SC
/-- zeros; those with the sign -/
def zc (L : List Int) : Nat := L.countP fun x => x == 0 || x == 9223372036854775808
def sgc (L : List Int) : Nat := L.countP fun x => x == 9223372036854775808
/-- the value of those that have one -/
def vf (x : Int) : Int := if F.exq x = 2047 then 0 else val x
def vsf : List Int → Int
  | [] => 0
  | x :: t => vf x + vsf t
theorem vsf_append (a b : List Int) : vsf (a ++ b) = vsf a + vsf b := by
  induction a with
  | nil => simp [vsf]
  | cons x t ih => simp [vsf, ih]; omega
theorem vsf_fin {L : List Int} (h : ∀ x ∈ L, fi x) : vsf L = vs L := by
  induction L with
  | nil => rfl
  | cons x t ih =>
    have hx := (h x (by simp)).2.2
    simp only [vsf, vs, vf]
    rw [if_neg hx, ih fun y hy => h y (by simp [hy])]
theorem val_lim {x : Int} (h : fi x) : val x ≤ sc 1 1024 ∧ -(sc 1 1024) ≤ val x := by
  have := (of_fit h).2
  have h1 := this.hi
  have h2 := this.lo
  unfold val
  omega
theorem vsf_lim : ∀ L : List Int, u64s L → vsf L ≤ L.length * sc 1 1024 ∧ -(L.length * sc 1 1024) ≤ vsf L := by
  intro L
  induction L with
  | nil => intro _; simp [vsf]
  | cons x t ih =>
    intro h
    have h1 := ih fun y hy => h y (by simp [hy])
    have hx := h x (by simp)
    have hp := sc_one_pos 1024
    have hv : vf x ≤ sc 1 1024 ∧ -(sc 1 1024) ≤ vf x := by
      unfold vf
      by_cases h2 : F.exq x = 2047
      · rw [if_pos h2]; omega
      · rw [if_neg h2]; exact val_lim ⟨hx.1, hx.2, h2⟩
    have e : ((x :: t).length : Int) = t.length + 1 := by simp
    rw [e, Int.add_mul, Int.one_mul]
    simp only [vsf]
    omega
/-- one more -/
theorem zc_snoc (L : List Int) (x : Int) : zc (L ++ [x]) = zc L + (if x = 0 ∨ x = 9223372036854775808 then 1 else 0) := by
  unfold zc
  rw [List.countP_append]
  by_cases h : x = 0 ∨ x = 9223372036854775808
  · rw [if_pos h]; rcases h with rfl | rfl <;> rfl
  · rw [if_neg h]
    have : (x == 0 || x == 9223372036854775808) = false := by
      rw [Bool.or_eq_false_iff, beq_eq_false_iff_ne, beq_eq_false_iff_ne]
      exact ⟨fun h2 => h (.inl h2), fun h2 => h (.inr h2)⟩
    simp [List.countP_cons, this]
theorem sgc_snoc (L : List Int) (x : Int) : sgc (L ++ [x]) = sgc L + (if x = 9223372036854775808 then 1 else 0) := by
  unfold sgc
  rw [List.countP_append]
  by_cases h : x = 9223372036854775808
  · rw [if_pos h, h]; rfl
  · rw [if_neg h]
    have : (x == 9223372036854775808) = false := by rw [beq_eq_false_iff_ne]; exact h
    simp [List.countP_cons, this]
theorem zc_le (L : List Int) : zc L ≤ L.length := List.countP_le_length
theorem sgc_le (L : List Int) : sgc L ≤ L.length := List.countP_le_length
theorem any_snoc (L : List Int) (x : Int) : hN (L ++ [x]) = (hN L || F.cls x == 5) ∧ hP (L ++ [x]) = (hP L || x == 9218868437227405312) ∧ hM (L ++ [x]) = (hM L || x == 18442240474082181120) := by
  unfold hN hP hM
  rw [List.any_append, List.any_append, List.any_append]
  simp
/-- which zero, by counts -/
theorem ZR_count (L : List Int) (mode : Int) (hf : ∀ x ∈ L, fi x) (h : vs L = 0) :
    ZR L mode = if zc L = L.length ∧ sgc L = zc L ∧ 0 < zc L then 9223372036854775808 else if zc L = L.length ∧ sgc L = 0 then 0 else if mode = 2 then 9223372036854775808 else 0 := by
  unfold ZR
  by_cases h0 : L = []
  · subst h0; simp [zc, sgc]
  · have hlen : 0 < L.length := List.length_pos_iff.2 h0
    rw [if_neg h0]
    by_cases h1 : sm L = true
    · rw [if_pos h1]
      obtain ⟨c, hc⟩ := sm_iff.1 h1
      have hm := head_mem h0
      rw [hc _ hm]
      have hv := vs_const hc
      rw [h] at hv
      have hfc : fi c := by have := hf _ hm; rwa [hc _ hm] at this
      have hz : val c = 0 := by
        rcases Int.mul_eq_zero.1 hv.symm with h2 | h2
        · omega
        · exact h2
      rcases val_zero hfc hz with rfl | rfl
      · have e1 : zc L = L.length := by unfold zc; rw [List.countP_eq_length]; intro x hx; rw [hc x hx]; rfl
        have e2 : sgc L = 0 := by unfold sgc; rw [List.countP_eq_zero]; intro x hx; rw [hc x hx]; decide
        rw [if_neg (by omega), if_pos ⟨e1, e2⟩]
      · have e1 : zc L = L.length := by unfold zc; rw [List.countP_eq_length]; intro x hx; rw [hc x hx]; rfl
        have e2 : sgc L = L.length := by unfold sgc; rw [List.countP_eq_length]; intro x hx; rw [hc x hx]; rfl
        rw [if_pos ⟨e1, by omega, by omega⟩]
    · rw [if_neg h1]
      have n1 : ¬ (zc L = L.length ∧ sgc L = zc L ∧ 0 < zc L) := by
        rintro ⟨a, b, -⟩
        apply h1
        rw [sm_iff]
        refine ⟨9223372036854775808, fun x hx => ?_⟩
        have : sgc L = L.length := by omega
        unfold sgc at this
        rw [List.countP_eq_length] at this
        simpa using this x hx
      have n2 : ¬ (zc L = L.length ∧ sgc L = 0) := by
        rintro ⟨a, b⟩
        apply h1
        rw [sm_iff]
        refine ⟨0, fun x hx => ?_⟩
        unfold zc at a
        unfold sgc at b
        rw [List.countP_eq_length] at a
        rw [List.countP_eq_zero] at b
        have := a x hx
        have h2 := b x hx
        simp at this h2
        omega
      rw [if_neg n1, if_neg n2]
/-- what the document tells of a list -/
noncomputable def SO (L : List Int) (mode : Int) : Int × Bool :=
  if hN L || (hP L && hM L) then (9221120237041090560, false)
  else if hP L || hM L then (if hM L then 18442240474082181120 else 9218868437227405312, false)
  else if vs L ≠ 0 then (TX (tot L dz) mode, TL (tot L dz) mode)
  else if zc L = L.length ∧ sgc L = zc L ∧ 0 < zc L then (9223372036854775808, false)
  else if zc L = L.length ∧ sgc L = 0 then (0, false)
  else (if mode = 2 then 9223372036854775808 else 0, false)
theorem no_inf {L : List Int} (hu : u64s L) : (hN L = false ∧ hP L = false ∧ hM L = false) ↔ ∀ x ∈ L, fi x := by
  rw [← wv_fin hu, wv_eq hu]
  unfold WV; cases hN L <;> cases hP L <;> cases hM L <;> simp
theorem SO_AT {L : List Int} {mode : Int} (hm : 0 ≤ mode ∧ mode ≤ 4) (hl : ¬ 200 < L.length) (hu : u64s L) : AT L mode = ((SO L mode).1, (SO L mode).2, 0) := by
  by_cases hf : ∀ x ∈ L, fi x
  · obtain ⟨a, b, c⟩ := (no_inf hu).2 hf
    have at' := AT_fin hm hl hf
    unfold SO
    rw [a, b, c]
    simp only [Bool.false_and, Bool.or_false, Bool.false_eq_true, if_false]
    by_cases h0 : vs L = 0
    · rw [at'.1 h0, ZR_count L mode hf h0]
      simp only [h0, ne_eq, not_true_eq_false, if_false]
      split
      · rfl
      · split <;> rfl
    · rw [at'.2 h0, if_pos h0]
  · rw [AT_wv hm hl hu hf]
    have h := fun h => hf ((no_inf hu).1 h)
    unfold SO WV
    cases a : hN L <;> cases b : hP L <;> cases c : hM L <;> simp_all
end VC
end Go.Proofs.YtelblhgagpkjmaaGreatDoor

/-
  The document's sum: its parts.
-/
namespace Go.Proofs.YtelblhgagpkjmaaGreatDoor
set_option linter.unusedVariables false
set_option linter.unusedSimpArgs false
open Go.RowKit
set_option linter.unusedVariables false
set_option linter.unusedSimpArgs false
namespace VC
open Z (Nz Tz cmpv big)
open ZC DC RC QC SC
theorem IsNan_c (x : Int) (h0 : 0 ≤ x) (h1 : x ≤ 18446744073709551615) (w : World) : Calls Tryz.prog 101 #[.int .u64 x] w fun e w' => e = .returned (.bool (F.cls x == 5)) ∧ w = w' := by
  have CO := Lib.hid (FloatR.ClassOf_c x h0 h1 w)
  generalize F.cls x = c at *
  go_enter Tryz.func101, Tryz.ntmps101
  go_wp2_with (go_at_call 40; (with_reducible refine (CO.out).mono ?_); rintro e w2 ⟨rfl, rfl⟩)
  go_ret
  exact ⟨rfl, rfl⟩
theorem IsInf_c (x : Int) (h0 : 0 ≤ x) (h1 : x ≤ 18446744073709551615) (w : World) : Calls Tryz.prog 102 #[.int .u64 x] w fun e w' => e = .returned (.bool (F.cls x == 4)) ∧ w = w' := by
  have CO := Lib.hid (FloatR.ClassOf_c x h0 h1 w)
  generalize F.cls x = c at *
  go_enter Tryz.func102, Tryz.ntmps102
  go_wp2_with (go_at_call 40; (with_reducible refine (CO.out).mono ?_); rintro e w2 ⟨rfl, rfl⟩)
  go_ret
  exact ⟨rfl, rfl⟩
theorem Minus_c (x : Int) (w : World) : Calls Tryz.prog 103 #[.int .u64 x] w fun e w' => e = .returned (.bool (decide (9223372036854775808 ≤ x))) ∧ w = w' := by
  go_enter Tryz.func103, Tryz.ntmps103
  go_wp2
  go_ret
  exact ⟨rfl, rfl⟩
theorem Signed_c (x : Int) (b : Bool) (w : World) (h0 : 0 ≤ x) (h1 : x < 9223372036854775808) : Calls Tryz.prog 105 #[.int .u64 x, .bool b] w fun e w' => e = .returned (.int .u64 (if b = true then x + 9223372036854775808 else x)) ∧ w = w' := by
  have i1 : IntKind.u64.wrap (x + 9223372036854775808) = x + 9223372036854775808 := IntWalk.u64_in _ (by omega)
  cases b
  · go_enter Tryz.func105, Tryz.ntmps105
    go_wp2
    go_ret
    exact ⟨rfl, rfl⟩
  · go_enter Tryz.func105, Tryz.ntmps105
    go_wp2
    go_ret
    exact ⟨rfl, rfl⟩
theorem QuietNan_c (w : World) : Calls Tryz.prog 104 #[] w fun e w' => e = .returned (.int .u64 9221120237041090560) ∧ w = w' := by
  go_enter Tryz.func104, Tryz.ntmps104
  go_wp2
  go_ret
  exact ⟨rfl, rfl⟩
theorem InfBits_c (w : World) : Calls Tryz.prog 106 #[] w fun e w' => e = .returned (.int .u64 9218868437227405312) ∧ w = w' := by
  go_enter Tryz.func106, Tryz.ntmps106
  go_wp2
  go_ret
  exact ⟨rfl, rfl⟩
theorem QVal_m {M : Nat} (hM : M = 2200) (x : Int) (w : World) (h : fi x) : Calls Tryz.prog 25 #[.int .u64 x] w (RetSF M 1100 w (val x)) := by
  have hb := F.exq_bd x
  have hf := F.fra_bd x
  have mb : 0 ≤ mant x ∧ mant x < 9007199254740992 := by unfold mant; split <;> omega
  have ub : -1074 ≤ F.ulp x ∧ F.ulp x ≤ 972 := by unfold F.ulp; split <;> omega
  have e1 := (of_p h.1 h.2.1 h.2.2).1
  have e : val x = sc (sgm (F.sgn x) (mant x)) (F.ulp x) := by
    unfold val S
    unfold OfD at e1 ⊢
    rw [if_neg h.2.2] at e1 ⊢
    exact fin_sc (by omega) e1
  rw [e]
  have ha : (sgm (F.sgn x) (mant x)).natAbs < 2 ^ 53 := by
    have h2 : (2 : Nat) ^ 53 = 9007199254740992 := by decide
    unfold sgm
    rw [h2]
    split <;> omega
  refine (QVal_f x w h.1 h.2.1).mono fun en w' hr => ?_
  obtain ⟨b9, A9, n9, c9, rfl, hr, hf9, hb9⟩ := hr
  have := mkt_bd (F.ulp x) 1074 (by omega)
  have hz := mkz_lt (M := 53) (E := 972) (e := F.ulp x) ha (by omega)
  obtain ⟨J, hJ⟩ : ∃ J : Nat, J = 53 + 972 := ⟨_, rfl⟩
  rw [← hJ] at hz
  have hlt : (2 : Nat) ^ J ≤ 2 ^ M := Nat.pow_le_pow_right (by decide) (by omega)
  exact ⟨b9, A9, n9, c9, _, _, rfl, hr, Nat.lt_of_lt_of_le hz hlt, this.1, by omega, mk_sc _ _ (by omega), hf9, hb9⟩
theorem QVal_v (x : Int) (w : World) (h : fi x) : Calls Tryz.prog 25 #[.int .u64 x] w (RetSF 2200 1100 w (val x)) := QVal_m rfl x w h
theorem nat_lim {z t s k : Int} {M : Nat} (hM : M = 2200) (hk : k = 1032) (h0 : 0 ≤ t) (h1 : t ≤ 1100) (he : sc z (-t) = s) (hs : s ≤ sc 1 k ∧ -(sc 1 k) ≤ s) : z.natAbs < 2 ^ M := by
  obtain ⟨j, hj⟩ : ∃ j : Nat, k + t = j := ⟨(k + t).toNat, by omega⟩
  have e2 : sc 1 k = 2 ^ j * sc 1 (-t) := by
    rw [← sc_mul1, sc_two j _ (by omega)]
    congr 1; omega
  have hp := sc_one_pos (-t)
  rw [sc_mul1] at he
  rw [e2, ← he] at hs
  clear e2 he
  have hP := two_pos' j
  have l1 : z ≤ 2 ^ j := Int.le_of_mul_le_mul_right hs.1 hp
  have l2 : -(2 ^ j) ≤ z := by
    have := hs.2
    rw [← Int.neg_mul] at this
    exact Int.le_of_mul_le_mul_right this hp
  have hlt : (2 : Int) ^ j < 2 ^ M := two_lt' (by omega)
  apply lt_cast
  generalize (2 : Int) ^ M = P at *
  generalize (2 : Int) ^ j = Q at *
  omega
set_option maxRecDepth 100000 in
theorem QAdd_f (va vb : Value) (a b ta tb : Int) (w : World) (ha : QV w va a ta) (hb : QV w vb b tb) (bA : a.natAbs < big 500000) (bB : b.natAbs < big 500000) (h1 : 0 ≤ ta ∧ ta ≤ 100000) (h2 : 0 ≤ tb ∧ tb ≤ 100000)
    (k1 : (up a ta tb).natAbs < big 1000000) (k2 : (up b tb ta).natAbs < big 1000000) :
    Calls Tryz.prog 32 #[va, vb] w (RetVF w (up a ta tb + up b tb ta) (max ta tb)) := by
  have LVc : ∀ W, Below w.heap.size w W → Calls Tryz.prog 39 #[va, vb] W (RetLv W (up a ta tb) (up b tb ta) (max ta tb)) := fun W hW => by
    have := level_c va vb a b ta tb W (qv_below ha hW) (qv_below hb hW) bA bB h1 h2
    rw [show (max ta tb - tb) = max tb ta - tb by omega] at this
    exact this
  obtain ⟨b1, A1, n1, c1, rfl, hv1⟩ := ha
  obtain ⟨b2, A2, n2, c2, rfl, hv2⟩ := hb
  obtain ⟨W0, hW0, D0, HS, KB⟩ := qbox2 w b1 b2 A1 A2 n1 c1 n2 c2 ta tb
  have LC := Lib.hid (LVc W0 D0)
  have CP : Hid (∀ (W : World) (u v : Value), ZV W u (up a ta tb) → ZV W v (up b tb ta) → Calls Tryz.prog 53 #[u, v] W (RetZ W (up a ta tb + up b tb ta))) := fun W u v h1 h2 => ZAdd_c u v _ _ W h1 h2 k1 k2
  have HW0 := Lib.hid hW0
  have D0 := Lib.hid D0
  have KB := Lib.hid KB
  generalize up a ta tb = x at *
  generalize up b tb ta = y at *
  generalize x + y = r at *
  obtain ⟨T, hT⟩ : ∃ T, max ta tb = T := ⟨_, rfl⟩
  rw [hT] at LC ⊢
  clear hv1 hv2 hW0 bA bB h1 h2 k1 k2 LVc HS hT
  go_enter Tryz.func32, Tryz.ntmps32
  go_wp2_with (first
    | (go_at_call 39; rw [HW0.out]; (with_reducible refine (LC.out).mono ?_); rintro e w2 ⟨bx, Ax, nx, cx, by', Ay, ny, cy, rfl, hx, hy, hb⟩; have hx := (hx.alloc (.cells #[.bool bx, .slice Ax nx cx] 39)).alloc (.cells #[.bool by', .slice Ay ny cy] 39); have hy := (hy.alloc (.cells #[.bool bx, .slice Ax nx cx] 39)).alloc (.cells #[.bool by', .slice Ay ny cy] 39); have D := Lib.hid ((hb.alloc hb.size (.cells #[.bool bx, .slice Ax nx cx] 39)).alloc ((hb.alloc hb.size (.cells #[.bool bx, .slice Ax nx cx] 39)).size) (.cells #[.bool by', .slice Ay ny cy] 39)))
    | (go_at_call 53; (with_reducible refine (CP.out _ _ _ hx.v hy.v).mono ?_); rintro e w3 ⟨_, rfl, ⟨b3, A3, n3, c3, rfl, hr⟩, hb3⟩; have FF := Lib.hid (hr.fr.mono (Nat.le_trans D0.out.size D.out.size)); have D := Lib.hid (D.out.trans (hb3.mono D.out.size)); have R := (KB.out _ D.out).2; have X := Lib.hid (set3 hr.zl (off_q hr.zl R) (.bool b3) (.slice A3 n3 c3) (.int .i64 T)); have f0 := R.frozen 0; have f1 := R.frozen 1; have f2 := R.frozen 2; have t0 := R.at_ 0 rfl; have t1 := R.at_ 1 rfl; have t2 := R.at_ 2 rfl))
  exact bodyPost_ret (v := .agg #[.bool b3, .slice A3 n3 c3, .int .i64 T]) (by simp [results, Tryz.results32, go_sem, t0, t1, t2]) rfl
    ⟨_, _, _, _, rfl, X.out, FF.out, below3q (D0.out.trans (D.out.mono D0.out.size)) (by omega) _ _ _⟩
theorem QAdd_m {M : Nat} (hM : M = 2200) {u v : Value} {s s' : Int} {w : World} {k : Int} (hk : k = 1032) (h : QS M 1100 w u s) (h' : QS M 1100 w v s') (hs : s + s' ≤ sc 1 k ∧ -(sc 1 k) ≤ s + s') : Calls Tryz.prog 32 #[u, v] w (RetSF M 1100 w (s + s')) := by
  obtain ⟨a, ta, ha, a1, a2, a3, a4⟩ := h
  obtain ⟨b, tb, hb, b1, b2, b3, b4⟩ := h'
  have c1 := up_lt (tb := tb) a1 a2 b3
  have c2 := up_lt (tb := ta) b1 b2 a3
  have := QAdd_f u v a b ta tb w ha hb (lt_big a1 (by omega) (by omega)) (lt_big b1 (by omega) (by omega)) (by omega) (by omega) (lt_big c1 (by omega) (by omega)) (lt_big c2 (by omega) (by omega))
  have e1 := up_sc (a := a) (ta := ta) (tb := tb) (by omega)
  have e2 := up_sc (a := b) (ta := tb) (tb := ta) (by omega)
  rw [show max tb ta = max ta tb by omega] at e2
  refine this.mono ?_
  rintro e w' ⟨b9, A9, n9, c9, rfl, hr, hfr, hb9⟩
  have es : sc (up a ta tb + up b tb ta) (-(max ta tb)) = s + s' := by rw [sc_add, e1, e2, a4, b4]
  exact ⟨b9, A9, n9, c9, _, _, rfl, hr, nat_lim hM hk (by omega) (by omega) es hs, by omega, by omega, es, hfr, hb9⟩
theorem QAdd_v {u v : Value} {s s' : Int} {w : World} {k : Int} (hk : k = 1032) (h : QS 2200 1100 w u s) (h' : QS 2200 1100 w v s') (hs : s + s' ≤ sc 1 k ∧ -(sc 1 k) ≤ s + s') : Calls Tryz.prog 32 #[u, v] w (RetSF 2200 1100 w (s + s')) := QAdd_m rfl hk h h' hs
theorem Rounded_v {u : Value} {w : World} {d : Dy} {mode : Int} (h : QS 2200 1100 w u (S d)) (hd : Ok d) (hm : 0 ≤ mode ∧ mode ≤ 4) :
    Calls Tryz.prog 107 #[u, .int .i64 0, .int .i64 mode] w fun e w' => e = .returned (.tuple #[.int .u64 (TX d mode), .bool (TL d mode)]) ∧ Below w.heap.size w w' := by
  obtain ⟨r, hf, m, t, -⟩ := towA hd
  obtain ⟨e1, e2, -⟩ := TX_of hd hm t
  have ab := A_abs d
  have es : sa (S d) = A d := by
    unfold sa
    by_cases h0 : S d < 0
    · rw [if_pos h0]; exact (ab.2 h0).1.symm
    · rw [if_neg h0]; exact (ab.1 (by omega)).1.symm
  have eg : decide (S d < 0) = ng d := by
    by_cases h0 : S d < 0
    · rw [decide_eq_true h0]; exact (ab.2 h0).2.symm
    · rw [decide_eq_false h0]; exact (ab.1 (by omega)).2.symm
  rw [← es] at t
  obtain ⟨k1, k2⟩ := rounded_0 t hm
  have := Rounded_w u (S d) (lw (S d) r hf m) 0 mode w h (by omega) (by omega) (lw_low t) (by omega) hm (loR_bd t)
  rw [k1, k2, eg] at this
  rw [e1, e2]
  exact this
end VC
end Go.Proofs.YtelblhgagpkjmaaGreatDoor

/-
  The document's sum of a list.
-/
namespace Go.Proofs.YtelblhgagpkjmaaGreatDoor
set_option linter.unusedVariables false
set_option linter.unusedSimpArgs false
open Go.RowKit
set_option linter.unusedVariables false
set_option linter.unusedSimpArgs false
namespace VC
open Z (Nz Tz cmpv big)
open ZC DC RC QC SC
theorem _root_.Go.Proofs.YtelblhgagpkjmaaGreatDoor.QC.QS.mono2 {M T M' T' : Nat} {w : World} {v : Value} {s : Int} (h : QS M T w v s) (hM : M ≤ M') (hT : T ≤ T') : QS M' T' w v s := by
  obtain ⟨z, t, h1, h2, h3, h4, h5⟩ := h
  exact ⟨z, t, h1, Nat.lt_of_lt_of_le h2 (Nat.pow_le_pow_right (by decide) hM), h3, by omega, h5⟩
/-- what the loop of SumOf keeps: the box of the sum, its value -/
structure SI (w W : World) (b : Bool) (A : Option Addr) (n c : Nat) (t s : Int) : Prop where
  k : Blk W w.heap.size 41 #[.bool b, .slice A n c, .int .i64 t]
  q : QS 2200 1100 W (.agg #[.bool b, .slice A n c, .int .i64 t]) s
  b : Below w.heap.size w W
theorem SI.below {w W W' : World} {b A n c t s} (h : SI w W b A n c t s) (hb : Below W.heap.size W W') : SI w W' b A n c t s := ⟨h.k.below hb h.k.lt, h.q.below hb, h.b.trans (hb.mono h.b.size)⟩
theorem SI.set {w W V : World} {b A n c t s b' A' n' c'} {t' z' s' : Int} (h : SI w W b A n c t s) (hV : Below V.heap.size V W) (hg : w.heap.size < V.heap.size) (hz : ZL W b' A' n' c' z') (k1 : z'.natAbs < 2 ^ 2200) (k2 : 0 ≤ t') (k3 : t' ≤ 1100) (k4 : sc z' (-t') = s') (hf : Fr V.heap.size A' n') :
    SI w (((W.setCell ⟨w.heap.size, 0, none⟩ (.bool b')).setCell ⟨w.heap.size, 1, none⟩ (.slice A' n' c')).setCell ⟨w.heap.size, 2, none⟩ (.int .i64 t')) b' A' n' c' t' s' :=
  ⟨blk3 h.k _ _ _, ⟨z', t', ⟨b', A', n', c', rfl, QC.set3 hz (off_new hf hg) _ _ _⟩, k1, k2, k3, k4⟩, below3q h.b (Nat.le_refl _) _ _ _⟩
theorem vsf_ok {L : List Int} {k : Nat} {K : Int} (hK : K = 1032) (hu : u64s L) (hl : L.length ≤ 200) : vsf (L.take k) ≤ sc 1 K ∧ -(sc 1 K) ≤ vsf (L.take k) := by
  have h := vsf_lim (L.take k) fun x hx => hu x (List.mem_of_mem_take hx)
  have h2 : (L.take k).length ≤ 200 := by rw [List.length_take]; omega
  have h3 := fit_lim (j := (L.take k).length) (t := K) (by omega) hK
  omega
theorem take_snoc {L : List Int} {k : Nat} {x : Int} (hx : L[k]? = some x) : L.take (k + 1) = L.take k ++ [x] := by rw [List.take_add_one, hx]; rfl
theorem fi_zero {x : Int} (h : fi x) : cmpv (val x) 0 = 0 ↔ x = 0 ∨ x = 9223372036854775808 := by
  constructor
  · intro h1
    rcases cmpv3 (val x) 0 with ⟨e, k⟩ | ⟨e, k⟩ | ⟨e, k⟩
    · rw [e] at h1; cases h1
    · exact val_zero h k
    · rw [e] at h1; cases h1
  · intro h1
    have : val x = 0 := by
      rw [val_eq h]
      rcases h1 with rfl | rfl
      · rw [show (0 : Int) % 9223372036854775808 = 0 by decide, U_zero]; rfl
      · rw [show (9223372036854775808 : Int) % 9223372036854775808 = 0 by decide, U_zero]; rfl
    rw [this]; exact Z.cmpv_eq rfl
theorem fi_flags {x : Int} (h : fi x) : (F.cls x == 5) = false ∧ (F.cls x == 4) = false ∧ (x == 9218868437227405312) = false ∧ (x == 18442240474082181120) = false := by
  have h1 := cls_fi.2 h.2.2
  have h2 := fi_mod h
  refine ⟨by simp [h1.1], by simp [h1.2], ?_, ?_⟩ <;> rw [beq_eq_false_iff_ne] <;> rintro rfl <;> simp at h2
/-- one round: what becomes of the counts -/
def st (L : List Int) (p m n : Bool) (z s : Int) : Prop := p = hP L ∧ m = hM L ∧ n = hN L ∧ z = zc L ∧ s = sgc L
theorem st_nan {L : List Int} {x : Int} {p m n : Bool} {z s : Int} (h : st L p m n z s) (hc : F.cls x = 5) : st (L ++ [x]) p m true z s ∧ vsf (L ++ [x]) = vsf L := by
  obtain ⟨rfl, rfl, rfl, rfl, rfl⟩ := h
  have a := any_snoc L x
  have hx : ¬ (x = 0 ∨ x = 9223372036854775808) ∧ ¬ x = 9218868437227405312 ∧ ¬ x = 18442240474082181120 := by
    refine ⟨?_, ?_, ?_⟩
    · rintro (rfl | rfl) <;> revert hc <;> decide
    · rintro rfl; revert hc; decide
    · rintro rfl; revert hc; decide
  have e1 : F.exq x = 2047 := by
    rcases Classical.em (F.exq x = 2047) with h | h
    · exact h
    · exact absurd hc (cls_fi.2 h).1
  refine ⟨⟨?_, ?_, ?_, ?_, ?_⟩, ?_⟩
  · rw [a.2.1]; simp [hx.2.1]
  · rw [a.2.2]; simp [hx.2.2]
  · rw [a.1, hc]; simp
  · rw [zc_snoc, if_neg hx.1]; rfl
  · rw [sgc_snoc, if_neg fun h => hx.1 (.inr h)]; rfl
  · rw [vsf_append]; simp [vsf, vf, e1]
theorem st_M {L : List Int} {p m n : Bool} {z s : Int} (h : st L p m n z s) : st (L ++ [18442240474082181120]) p true n z s ∧ vsf (L ++ [18442240474082181120]) = vsf L := by
  obtain ⟨rfl, rfl, rfl, rfl, rfl⟩ := h
  have a := any_snoc L 18442240474082181120
  refine ⟨⟨?_, ?_, ?_, ?_, ?_⟩, ?_⟩
  · rw [a.2.1]; simp
  · rw [a.2.2]; simp
  · rw [a.1, show F.cls 18442240474082181120 = 4 by decide]; simp
  · rw [zc_snoc, if_neg (by omega)]; rfl
  · rw [sgc_snoc, if_neg (by omega)]; rfl
  · rw [vsf_append]; simp [vsf, vf, show F.exq 18442240474082181120 = 2047 by decide]
theorem st_P {L : List Int} {p m n : Bool} {z s : Int} (h : st L p m n z s) : st (L ++ [9218868437227405312]) true m n z s ∧ vsf (L ++ [9218868437227405312]) = vsf L := by
  obtain ⟨rfl, rfl, rfl, rfl, rfl⟩ := h
  have a := any_snoc L 9218868437227405312
  refine ⟨⟨?_, ?_, ?_, ?_, ?_⟩, ?_⟩
  · rw [a.2.1]; simp
  · rw [a.2.2]; simp
  · rw [a.1, show F.cls 9218868437227405312 = 4 by decide]; simp
  · rw [zc_snoc, if_neg (by omega)]; rfl
  · rw [sgc_snoc, if_neg (by omega)]; rfl
  · rw [vsf_append]; simp [vsf, vf, show F.exq 9218868437227405312 = 2047 by decide]
theorem st_fi {L : List Int} {x : Int} {p m n : Bool} {z s : Int} (h : st L p m n z s) (hx : fi x) :
    st (L ++ [x]) p m n (z + if x = 0 ∨ x = 9223372036854775808 then 1 else 0) (s + if x = 9223372036854775808 then 1 else 0) ∧ vsf (L ++ [x]) = vsf L + val x := by
  obtain ⟨rfl, rfl, rfl, rfl, rfl⟩ := h
  have a := any_snoc L x
  obtain ⟨f1, f2, f3, f4⟩ := fi_flags hx
  refine ⟨⟨?_, ?_, ?_, ?_, ?_⟩, ?_⟩
  · rw [a.2.1, f3]; simp
  · rw [a.2.2, f4]; simp
  · rw [a.1, f1]; simp
  · rw [zc_snoc]; split <;> simp
  · rw [sgc_snoc]; split <;> simp
  · rw [vsf_append]; simp [vsf, vf, hx.2.2]
end VC
end Go.Proofs.YtelblhgagpkjmaaGreatDoor

/-
  The document's sum of a list: the walk.
-/
namespace Go.Proofs.YtelblhgagpkjmaaGreatDoor
set_option linter.unusedVariables false
set_option linter.unusedSimpArgs false
open Go.RowKit
set_option linter.unusedVariables false
set_option linter.unusedSimpArgs false
namespace VC
open Z (Nz Tz cmpv big)
open ZC DC RC QC SC
theorem blk3far {w : World} {g g' : Nat} {t : TypeId} {cs : Array Value} (h : Blk w g t cs) (hg : g ≠ g') (x y z : Value) : Blk (((w.setCell ⟨g', 0, none⟩ x).setCell ⟨g', 1, none⟩ y).setCell ⟨g', 2, none⟩ z) g t cs :=
  ((h.far (by simpa using hg) _).far (by simpa using hg) _).far (by simpa using hg) _
theorem SO_nan {L : List Int} (mode : Int) (h : hN L = true ∨ (hP L = true ∧ hM L = true)) : SO L mode = (9221120237041090560, false) := by
  unfold SO; rw [if_pos]; rcases h with h | ⟨h1, h2⟩
  · rw [h]; rfl
  · rw [h1, h2]; simp
theorem SO_inf {L : List Int} (mode : Int) (h : hN L = false) (h2 : ¬ (hP L = true ∧ hM L = true)) (h3 : hP L = true ∨ hM L = true) : SO L mode = (if hM L = true then 9218868437227405312 + 9223372036854775808 else 9218868437227405312, false) := by
  unfold SO; rw [h, if_neg (by simpa using h2), if_pos (by simpa using h3)]; rfl
theorem SO_sum {L : List Int} (mode : Int) (h : hN L = false ∧ hP L = false ∧ hM L = false) : SO L mode = if vs L ≠ 0 then (TX (tot L dz) mode, TL (tot L dz) mode)
  else if zc L = L.length ∧ sgc L = zc L ∧ 0 < zc L then (9223372036854775808, false)
  else if zc L = L.length ∧ sgc L = 0 then (0, false)
  else (if mode = 2 then 9223372036854775808 else 0, false) := by
  obtain ⟨a, b, c⟩ := h
  unfold SO; rw [a, b, c, if_neg (by simp), if_neg (by simp)]
set_option maxRecDepth 100000 in
set_option maxHeartbeats 8000000 in
theorem SumOf_c (A : Option Addr) (n c : Nat) (L : List Int) (mode : Int) (w : World) (hs : Sl .u64 w (.slice A n c) L) (hu : u64s L) (hl : L.length ≤ 200) (hm : 0 ≤ mode ∧ mode ≤ 4) :
    Calls Tryz.prog 80 #[.slice A n c, .int .i64 mode] w fun e w' => e = .returned (.tuple #[.int .u64 (SO L mode).1, .bool (SO L mode).2]) ∧ Below w.heap.size w w' := by
  have N0 := Blk.new w 41 #[.bool false, .slice none 0 0, .int .i64 0]
  have D0 : Below w.heap.size w (w.alloc (.cells #[.bool false, .slice none 0 0, .int .i64 0] 41)) := al2 w _
  obtain ⟨W0, hW0⟩ : ∃ W0, w.alloc (.cells #[.bool false, .slice none 0 0, .int .i64 0] 41) = W0 := ⟨_, rfl⟩
  rw [hW0] at N0 D0
  have HS : Hid (∀ W, Below w.heap.size w W → Sl .u64 W (.slice A n c) L) := fun W hW => hs.below hW
  obtain ⟨A', c', e, hc, hcell⟩ := hs.open_
  injection e with e1 e2 e3
  subst e1
  subst e3
  have VL : Hid (∀ (k : Nat) (K : Int), K = 1032 → vsf (L.take k) ≤ sc 1 K ∧ -(sc 1 K) ≤ vsf (L.take k)) := fun k K hK => vsf_ok hK hu hl
  have TK : Hid (∀ (d : Dy), (∀ x ∈ L, fi x) → d = tot L dz → Ok d ∧ S d = vs L) := fun d hf hd => by rw [hd]; exact tot_ok hf (by omega)
  rw [← e2] at hl hc
  have HN := Lib.hid e2
  have HU := Lib.hid hu
  have E0 : Hid (SI w W0 false none 0 0 0 0) := ⟨N0, (qs_zero W0).mono2 (by omega) (by omega), D0⟩
  have QV : Hid (∀ (W : World) (x : Int), fi x → Calls Tryz.prog 25 #[.int .u64 x] W (RetSF 2200 1100 W (val x))) := fun W x h => QVal_v x W h
  have QA : Hid (∀ (W : World) (u v : Value) (s s' : Int), QS 2200 1100 W u s → QS 2200 1100 W v s' → (∀ K : Int, K = 1032 → s + s' ≤ sc 1 K ∧ -(sc 1 K) ≤ s + s') → Calls Tryz.prog 32 #[u, v] W (RetSF 2200 1100 W (s + s'))) := fun W u v s s' h1 h2 h3 => QAdd_v rfl h1 h2 (h3 1032 rfl)
  have C0 : Hid (∀ (W : World) (u : Value) (s : Int), QS 2200 1100 W u s → Calls Tryz.prog 13 #[u, .agg #[.bool false, .slice none 0 0, .int .i64 0]] W fun e w' => e = .returned (.int .i64 (cmpv s 0)) ∧ Below W.heap.size W w') := fun W u s h => QCmp_s h (qs_zero W) (by omega) (by omega) (by omega) (by omega)
  have RO : Hid (∀ (W : World) (u : Value) (d : Dy), QS 2200 1100 W u (S d) → Ok d → Calls Tryz.prog 107 #[u, .int .i64 0, .int .i64 mode] W fun e w' => e = .returned (.tuple #[.int .u64 (TX d mode), .bool (TL d mode)]) ∧ Below W.heap.size W w') := fun W u d h1 h2 => Rounded_v h1 h2 hm
  have SG : Hid (∀ (W : World) (y : Int) (b : Bool), 0 ≤ y → y < 9223372036854775808 → Calls Tryz.prog 105 #[.int .u64 y, .bool b] W fun e w' => e = .returned (.int .u64 (if b = true then y + 9223372036854775808 else y)) ∧ W = w') := fun W y b h0 h1 => Signed_c y b W h0 h1
  have st0 : Hid (st ([] : List Int) false false false 0 0) := ⟨rfl, rfl, rfl, rfl, rfl⟩
  have HW0 := Lib.hid hW0
  obtain ⟨R, hR⟩ : ∃ R, R = SO L mode := ⟨_, rfl⟩
  rw [← hR]
  have HR := Lib.hid hR
  clear e2 hcell hs hu hW0 N0 D0 hm hR
  go_enter Tryz.func80, Tryz.ntmps80
  go_wp2
  rw [HW0.out]
  go_loopw [18, 6, 7, 8, 9, 10] (fun iv pv mv nv zv sv wr => ∃ (k : Nat) (p m nn : Bool) (z s : Int) (bq : Bool) (Aq : Option Addr) (nq cq : Nat) (tq : Int), iv = .int .i64 k ∧ k ≤ n ∧ pv = .bool p ∧ mv = .bool m ∧ nv = .bool nn ∧ zv = .int .i64 z ∧ sv = .int .i64 s ∧ Hid (st (L.take k) p m nn z s) ∧ Hid (SI w wr bq Aq nq cq tq (vsf (L.take k)))) (fun iv _ _ _ _ _ _ => n - (intOf iv).toNat)
  case atStart => exact ⟨0, _, _, _, _, _, _, _, _, _, _, rfl, by omega, rfl, rfl, rfl, rfl, rfl, st0.out, E0.out⟩
  case round =>
    obtain ⟨k, p, m, nn, z, s, bq, Aq, nq, cq, tq, rfl, hk, rfl, rfl, rfl, rfl, rfl, hst, hE⟩ := hrel
    have zb : 0 ≤ z ∧ z ≤ 200 ∧ 0 ≤ s ∧ s ≤ 200 := by
      obtain ⟨-, -, -, h1, h2⟩ := hst.out
      have a := zc_le (L.take k)
      have b := sgc_le (L.take k)
      rw [List.length_take] at a b
      have := HN.out
      omega
    obtain ⟨z0, z1, s0, s1⟩ := zb
    by_cases hkn : k < n
    · obtain ⟨ad, c', e, hc', hb, hcell⟩ := (HS.out _ hE.out.b).at_ k (by rw [← HN.out]; exact hkn)
      injection e with e1 e2 e3
      subst e1
      clear e2 e3 hc' c' hb
      obtain ⟨x, hx⟩ : ∃ x, L.getD k 0 = x := ⟨_, rfl⟩
      have hx2 : L[k]? = some x := by
        rw [List.getD_eq_getElem?_getD] at hx
        rw [List.getElem?_eq_getElem (by rw [← HN.out]; exact hkn)] at hx ⊢
        rw [← hx]; rfl
      have hux := HU.out x (List.mem_of_getElem? hx2)
      have ht := take_snoc hx2
      rw [hx] at hcell
      have VL1 := VL.out (k + 1)
      rw [ht] at VL1
      obtain ⟨Lk, hLk⟩ : ∃ Lk, L.take k = Lk := ⟨_, rfl⟩
      rw [hLk] at hst hE ht VL1
      have HT := Lib.hid ht
      have NA : Hid (∀ W : World, Calls Tryz.prog 101 #[.int .u64 x] W fun e w' => e = .returned (.bool (F.cls x == 5)) ∧ W = w') := fun W => IsNan_c x hux.1 hux.2 W
      have IN : Hid (∀ W : World, Calls Tryz.prog 102 #[.int .u64 x] W fun e w' => e = .returned (.bool (F.cls x == 4)) ∧ W = w') := fun W => IsInf_c x hux.1 hux.2 W
      have MI : Hid (∀ W : World, Calls Tryz.prog 103 #[.int .u64 x] W fun e w' => e = .returned (.bool (decide (9223372036854775808 ≤ x))) ∧ W = w') := fun W => Minus_c x W
      have kinds : F.cls x = 5 ∨ x = 18442240474082181120 ∨ x = 9218868437227405312 ∨ fi x := by
        by_cases h5 : F.cls x = 5
        · exact .inl h5
        · by_cases h4 : F.cls x = 4
          · rcases (cls_inf hux.1 hux.2).1 h4 with h | h
            · exact .inr (.inr (.inl h))
            · exact .inr (.inl h)
          · exact .inr (.inr (.inr ⟨hux.1, hux.2, cls_fi.1 ⟨h5, h4⟩⟩))
      clear hx hx2 ht hLk hux
      rcases kinds with h5 | rfl | rfl | hf
      · have S1 := Lib.hid (st_nan hst.out h5)
        have t5 : (F.cls x == 5) = true := by rw [h5]; rfl
        rw [t5] at NA
        clear h5 t5 VL1
        go_wp2_with (first | (go_at_call 101; (with_reducible refine (NA.out _).mono ?_); rintro e w1 ⟨rfl, rfl⟩))
        go_roundw
        case rel => exact ⟨k + 1, _, _, _, _, _, _, _, _, _, _, by go_num, by omega, rfl, rfl, rfl, rfl, rfl, by rw [HT.out]; exact S1.out.1, by rw [HT.out, S1.out.2]; exact hE.out⟩
        case measure => simp [intOf]; omega
      · have S1 := Lib.hid (st_M hst.out)
        rw [show (F.cls 18442240474082181120 == 5) = false by decide] at NA
        rw [show (F.cls 18442240474082181120 == 4) = true by decide] at IN
        rw [show decide ((9223372036854775808 : Int) ≤ 18442240474082181120) = true by decide] at MI
        clear VL1
        go_wp2_with (first
          | (go_at_call 101; (with_reducible refine (NA.out _).mono ?_); rintro e w1 ⟨rfl, rfl⟩)
          | (go_at_call 102; (with_reducible refine (IN.out _).mono ?_); rintro e w1 ⟨rfl, rfl⟩)
          | (go_at_call 103; (with_reducible refine (MI.out _).mono ?_); rintro e w1 ⟨rfl, rfl⟩))
        go_roundw
        case rel => exact ⟨k + 1, _, _, _, _, _, _, _, _, _, _, by go_num, by omega, rfl, rfl, rfl, rfl, rfl, by rw [HT.out]; exact S1.out.1, by rw [HT.out, S1.out.2]; exact hE.out⟩
        case measure => simp [intOf]; omega
      · have S1 := Lib.hid (st_P hst.out)
        rw [show (F.cls 9218868437227405312 == 5) = false by decide] at NA
        rw [show (F.cls 9218868437227405312 == 4) = true by decide] at IN
        rw [show decide ((9223372036854775808 : Int) ≤ 9218868437227405312) = false by decide] at MI
        clear VL1
        go_wp2_with (first
          | (go_at_call 101; (with_reducible refine (NA.out _).mono ?_); rintro e w1 ⟨rfl, rfl⟩)
          | (go_at_call 102; (with_reducible refine (IN.out _).mono ?_); rintro e w1 ⟨rfl, rfl⟩)
          | (go_at_call 103; (with_reducible refine (MI.out _).mono ?_); rintro e w1 ⟨rfl, rfl⟩))
        go_roundw
        case rel => exact ⟨k + 1, _, _, _, _, _, _, _, _, _, _, by go_num, by omega, rfl, rfl, rfl, rfl, rfl, by rw [HT.out]; exact S1.out.1, by rw [HT.out, S1.out.2]; exact hE.out⟩
        case measure => simp [intOf]; omega
      · have S1 := st_fi hst.out hf
        have ff := fi_flags hf
        rw [ff.1] at NA
        rw [ff.2.1] at IN
        have i1 : IntKind.i64.wrap (z + 1) = z + 1 := IntWalk.i64_in _ (by omega)
        have i2 : IntKind.i64.wrap (s + 1) = s + 1 := IntWalk.i64_in _ (by omega)
        have fz := fi_zero hf
        have VL2 : Hid (∀ K : Int, K = 1032 → vsf Lk + val x ≤ sc 1 K ∧ -(sc 1 K) ≤ vsf Lk + val x) := fun K hK => by
          have := VL1 K hK
          rwa [S1.2] at this
        have HF := Lib.hid hf
        have C0x : Hid (∀ (W : World) (u : Value), QS 2200 1100 W u (val x) → Calls Tryz.prog 13 #[u, .agg #[.bool false, .slice none 0 0, .int .i64 0]] W fun e w' => e = .returned (.int .i64 (cmpv (val x) 0)) ∧ Below W.heap.size W w') := fun W u h => C0.out W u _ h
        have kz : ((cmpv (val x) 0 == 0) = false ∧ ¬ (x = 0 ∨ x = 9223372036854775808)) ∨ (cmpv (val x) 0 = 0 ∧ x = 0) ∨ (cmpv (val x) 0 = 0 ∧ x = 9223372036854775808) := by
          by_cases h : cmpv (val x) 0 = 0
          · rcases fz.1 h with h2 | h2
            · exact .inr (.inl ⟨h, h2⟩)
            · exact .inr (.inr ⟨h, h2⟩)
          · exact .inl ⟨by simp [h], fun h2 => h (fz.2 h2)⟩
        obtain ⟨vx, hvx⟩ : ∃ vx, val x = vx := ⟨_, rfl⟩
        have QVx : Hid (∀ W : World, Calls Tryz.prog 25 #[.int .u64 x] W (RetSF 2200 1100 W vx)) := fun W => by
          have := QV.out W x HF.out
          rwa [hvx] at this
        rw [hvx] at S1 VL2 C0x kz
        generalize cmpv vx 0 = K at *
        clear VL1 ff fz hf HF hvx
        rcases kz with ⟨tk, hx0⟩ | ⟨rfl, rfl⟩ | ⟨rfl, rfl⟩
        · rw [if_neg hx0, if_neg fun h => hx0 (.inr h), Int.add_zero, Int.add_zero] at S1
          have S1 := Lib.hid S1
          clear hx0
          go_wp2_with (first
            | (go_at_call 101; (with_reducible refine (NA.out _).mono ?_); rintro e w1 ⟨rfl, rfl⟩)
            | (go_at_call 102; (with_reducible refine (IN.out _).mono ?_); rintro e w1 ⟨rfl, rfl⟩)
            | (go_at_call 25; (with_reducible refine (QVx.out _).mono ?_); rintro e w2 ⟨b2, A2, n2, c2, t2, y2, rfl, hz2, k1, k2, k3, k4, hfr2, hb2⟩; have s9 := hb2.alloc hb2.size (.cells #[.bool b2, .slice A2 n2 c2, .int .i64 t2] 41); have E2 := hE.out.below s9; have hz3 := hz2.alloc (.cells #[.bool b2, .slice A2 n2 c2, .int .i64 t2] 41); have X2 := Blk.new w2 41 #[.bool b2, .slice A2 n2 c2, .int .i64 t2]; have hg := Nat.lt_of_lt_of_le hE.out.k.lt hb2.size; have of2 := off_new hfr2 hE.out.k.lt; clear hb2 s9 hz2 hfr2; have p0 := E2.k.at_ 0 rfl; have p1 := E2.k.at_ 1 rfl; have p2 := E2.k.at_ 2 rfl; have q0 := X2.at_ 0 rfl; have q1 := X2.at_ 1 rfl; have q2 := X2.at_ 2 rfl; have E2 := Lib.hid E2; have X2 := Lib.hid X2; have hz3 := Lib.hid hz3; have Q2 := Lib.hid (RetS.qs hz3.out k1 k2 k3 k4); have KK := Lib.hid (And.intro k1 (And.intro k2 (And.intro k3 k4))); have HG := Lib.hid hg; have OF := Lib.hid of2; clear k1 k2 k3 k4 hg of2)
            | (go_at_call 32; (with_reducible refine (QA.out _ _ _ _ _ E2.out.q Q2.out VL2.out).mono ?_); rintro e w3 ⟨b3, A3, n3, c3, t3, y3, rfl, hz4, k1, k2, k3, k4, hfr3, hb3⟩; have E3 := E2.out.below hb3; have hx3 := hz3.out.below hb3; have X3 := X2.out.below hb3 X2.out.lt; have p0 := E3.k.at_ 0 rfl; have p1 := E3.k.at_ 1 rfl; have p2 := E3.k.at_ 2 rfl; have f0 := E3.k.frozen 0; have f1 := E3.k.frozen 1; have f2 := E3.k.frozen 2; have E4 := E3.set hb3 (Nat.lt_of_lt_of_le HG.out (by simp)) hz4 k1 k2 k3 k4 hfr3; have X4 := blk3far X3 (Nat.ne_of_gt HG.out) (.bool b3) (.slice A3 n3 c3) (.int .i64 t3); have hx4 := QC.set3 hx3 OF.out (.bool b3) (.slice A3 n3 c3) (.int .i64 t3); have r0 := X4.at_ 0 rfl; have r1 := X4.at_ 1 rfl; have r2 := X4.at_ 2 rfl; have E4 := Lib.hid E4; have Q4 := Lib.hid (RetS.qs hx4 KK.out.1 KK.out.2.1 KK.out.2.2.1 KK.out.2.2.2); clear hx4; clear E3 X3 hx3 hz4 k1 k2 k3 k4 hfr3 hb3 X4)
            | (go_at_call 13; (with_reducible refine (C0x.out _ _ Q4.out).mono ?_); rintro e w4 ⟨rfl, hb4⟩; have E5 := Lib.hid (E4.out.below hb4); clear hb4)
            | (go_at_call 103; (with_reducible refine (MI.out _).mono ?_); rintro e w1 ⟨rfl, rfl⟩))
          go_roundw
          case rel => exact ⟨k + 1, _, _, _, _, _, _, _, _, _, _, by go_num, by omega, rfl, rfl, rfl, rfl, rfl, by rw [HT.out]; exact S1.out.1, by rw [HT.out, S1.out.2]; exact E5.out⟩
          case measure => simp [intOf]; omega
        · rw [if_pos (.inl rfl), if_neg (by omega), Int.add_zero] at S1
          rw [show decide ((9223372036854775808 : Int) ≤ 0) = false by decide] at MI
          have S1 := Lib.hid S1
          go_wp2_with (first
            | (go_at_call 101; (with_reducible refine (NA.out _).mono ?_); rintro e w1 ⟨rfl, rfl⟩)
            | (go_at_call 102; (with_reducible refine (IN.out _).mono ?_); rintro e w1 ⟨rfl, rfl⟩)
            | (go_at_call 25; (with_reducible refine (QVx.out _).mono ?_); rintro e w2 ⟨b2, A2, n2, c2, t2, y2, rfl, hz2, k1, k2, k3, k4, hfr2, hb2⟩; have s9 := hb2.alloc hb2.size (.cells #[.bool b2, .slice A2 n2 c2, .int .i64 t2] 41); have E2 := hE.out.below s9; have hz3 := hz2.alloc (.cells #[.bool b2, .slice A2 n2 c2, .int .i64 t2] 41); have X2 := Blk.new w2 41 #[.bool b2, .slice A2 n2 c2, .int .i64 t2]; have hg := Nat.lt_of_lt_of_le hE.out.k.lt hb2.size; have of2 := off_new hfr2 hE.out.k.lt; clear hb2 s9 hz2 hfr2; have p0 := E2.k.at_ 0 rfl; have p1 := E2.k.at_ 1 rfl; have p2 := E2.k.at_ 2 rfl; have q0 := X2.at_ 0 rfl; have q1 := X2.at_ 1 rfl; have q2 := X2.at_ 2 rfl; have E2 := Lib.hid E2; have X2 := Lib.hid X2; have hz3 := Lib.hid hz3; have Q2 := Lib.hid (RetS.qs hz3.out k1 k2 k3 k4); have KK := Lib.hid (And.intro k1 (And.intro k2 (And.intro k3 k4))); have HG := Lib.hid hg; have OF := Lib.hid of2; clear k1 k2 k3 k4 hg of2)
            | (go_at_call 32; (with_reducible refine (QA.out _ _ _ _ _ E2.out.q Q2.out VL2.out).mono ?_); rintro e w3 ⟨b3, A3, n3, c3, t3, y3, rfl, hz4, k1, k2, k3, k4, hfr3, hb3⟩; have E3 := E2.out.below hb3; have hx3 := hz3.out.below hb3; have X3 := X2.out.below hb3 X2.out.lt; have p0 := E3.k.at_ 0 rfl; have p1 := E3.k.at_ 1 rfl; have p2 := E3.k.at_ 2 rfl; have f0 := E3.k.frozen 0; have f1 := E3.k.frozen 1; have f2 := E3.k.frozen 2; have E4 := E3.set hb3 (Nat.lt_of_lt_of_le HG.out (by simp)) hz4 k1 k2 k3 k4 hfr3; have X4 := blk3far X3 (Nat.ne_of_gt HG.out) (.bool b3) (.slice A3 n3 c3) (.int .i64 t3); have hx4 := QC.set3 hx3 OF.out (.bool b3) (.slice A3 n3 c3) (.int .i64 t3); have r0 := X4.at_ 0 rfl; have r1 := X4.at_ 1 rfl; have r2 := X4.at_ 2 rfl; have E4 := Lib.hid E4; have Q4 := Lib.hid (RetS.qs hx4 KK.out.1 KK.out.2.1 KK.out.2.2.1 KK.out.2.2.2); clear hx4; clear E3 X3 hx3 hz4 k1 k2 k3 k4 hfr3 hb3 X4)
            | (go_at_call 13; (with_reducible refine (C0x.out _ _ Q4.out).mono ?_); rintro e w4 ⟨rfl, hb4⟩; have E5 := Lib.hid (E4.out.below hb4); clear hb4)
            | (go_at_call 103; (with_reducible refine (MI.out _).mono ?_); rintro e w1 ⟨rfl, rfl⟩))
          go_roundw
          case rel => exact ⟨k + 1, _, _, _, _, _, _, _, _, _, _, by go_num, by omega, rfl, rfl, rfl, rfl, rfl, by rw [HT.out]; exact S1.out.1, by rw [HT.out, S1.out.2]; exact E5.out⟩
          case measure => simp [intOf]; omega
        · rw [if_pos (.inr rfl), if_pos rfl] at S1
          rw [show decide ((9223372036854775808 : Int) ≤ 9223372036854775808) = true by decide] at MI
          have S1 := Lib.hid S1
          go_wp2_with (first
            | (go_at_call 101; (with_reducible refine (NA.out _).mono ?_); rintro e w1 ⟨rfl, rfl⟩)
            | (go_at_call 102; (with_reducible refine (IN.out _).mono ?_); rintro e w1 ⟨rfl, rfl⟩)
            | (go_at_call 25; (with_reducible refine (QVx.out _).mono ?_); rintro e w2 ⟨b2, A2, n2, c2, t2, y2, rfl, hz2, k1, k2, k3, k4, hfr2, hb2⟩; have s9 := hb2.alloc hb2.size (.cells #[.bool b2, .slice A2 n2 c2, .int .i64 t2] 41); have E2 := hE.out.below s9; have hz3 := hz2.alloc (.cells #[.bool b2, .slice A2 n2 c2, .int .i64 t2] 41); have X2 := Blk.new w2 41 #[.bool b2, .slice A2 n2 c2, .int .i64 t2]; have hg := Nat.lt_of_lt_of_le hE.out.k.lt hb2.size; have of2 := off_new hfr2 hE.out.k.lt; clear hb2 s9 hz2 hfr2; have p0 := E2.k.at_ 0 rfl; have p1 := E2.k.at_ 1 rfl; have p2 := E2.k.at_ 2 rfl; have q0 := X2.at_ 0 rfl; have q1 := X2.at_ 1 rfl; have q2 := X2.at_ 2 rfl; have E2 := Lib.hid E2; have X2 := Lib.hid X2; have hz3 := Lib.hid hz3; have Q2 := Lib.hid (RetS.qs hz3.out k1 k2 k3 k4); have KK := Lib.hid (And.intro k1 (And.intro k2 (And.intro k3 k4))); have HG := Lib.hid hg; have OF := Lib.hid of2; clear k1 k2 k3 k4 hg of2)
            | (go_at_call 32; (with_reducible refine (QA.out _ _ _ _ _ E2.out.q Q2.out VL2.out).mono ?_); rintro e w3 ⟨b3, A3, n3, c3, t3, y3, rfl, hz4, k1, k2, k3, k4, hfr3, hb3⟩; have E3 := E2.out.below hb3; have hx3 := hz3.out.below hb3; have X3 := X2.out.below hb3 X2.out.lt; have p0 := E3.k.at_ 0 rfl; have p1 := E3.k.at_ 1 rfl; have p2 := E3.k.at_ 2 rfl; have f0 := E3.k.frozen 0; have f1 := E3.k.frozen 1; have f2 := E3.k.frozen 2; have E4 := E3.set hb3 (Nat.lt_of_lt_of_le HG.out (by simp)) hz4 k1 k2 k3 k4 hfr3; have X4 := blk3far X3 (Nat.ne_of_gt HG.out) (.bool b3) (.slice A3 n3 c3) (.int .i64 t3); have hx4 := QC.set3 hx3 OF.out (.bool b3) (.slice A3 n3 c3) (.int .i64 t3); have r0 := X4.at_ 0 rfl; have r1 := X4.at_ 1 rfl; have r2 := X4.at_ 2 rfl; have E4 := Lib.hid E4; have Q4 := Lib.hid (RetS.qs hx4 KK.out.1 KK.out.2.1 KK.out.2.2.1 KK.out.2.2.2); clear hx4; clear E3 X3 hx3 hz4 k1 k2 k3 k4 hfr3 hb3 X4)
            | (go_at_call 13; (with_reducible refine (C0x.out _ _ Q4.out).mono ?_); rintro e w4 ⟨rfl, hb4⟩; have E5 := Lib.hid (E4.out.below hb4); clear hb4)
            | (go_at_call 103; (with_reducible refine (MI.out _).mono ?_); rintro e w1 ⟨rfl, rfl⟩))
          go_roundw
          case rel => exact ⟨k + 1, _, _, _, _, _, _, _, _, _, _, by go_num, by omega, rfl, rfl, rfl, rfl, rfl, by rw [HT.out]; exact S1.out.1, by rw [HT.out, S1.out.2]; exact E5.out⟩
          case measure => simp [intOf]; omega
    · have hkn2 : k = n := by omega
      subst hkn2
      have he : L.take k = L := by rw [HN.out, List.take_length]
      rw [he] at hst hE
      obtain ⟨h1, h2, h3, h4, h5⟩ := hst.out
      have p0 := hE.out.k.at_ 0 rfl
      have p1 := hE.out.k.at_ 1 rfl
      have p2 := hE.out.k.at_ 2 rfl
      have QN : Hid (∀ W : World, Calls Tryz.prog 104 #[] W fun e w' => e = .returned (.int .u64 9221120237041090560) ∧ W = w') := fun W => QuietNan_c W
      have IB : Hid (∀ W : World, Calls Tryz.prog 106 #[] W fun e w' => e = .returned (.int .u64 9218868437227405312) ∧ W = w') := fun W => InfBits_c W
      have DW := Lib.hid hE.out.b
      by_cases c1 : nn = true ∨ (p = true ∧ m = true)
      · have so := SO_nan mode (L := L) (by rw [← h1, ← h2, ← h3]; exact c1)
        have e := HR.out.trans so
        subst e
        clear so h1 h2 h3 h4 h5 hst he
        have c1' : nn = true ∨ (nn = false ∧ p = true ∧ m = true) := by cases nn <;> simp_all
        rcases c1' with rfl | ⟨rfl, rfl, rfl⟩
        all_goals (
          go_wp2_with (first | (go_at_call 104; (with_reducible refine (QN.out _).mono ?_); rintro e w1 ⟨rfl, rfl⟩))
          go_ret2
          exact ⟨rfl, DW.out⟩)
      · have c1n : nn = false := by cases nn <;> simp_all
        subst c1n
        have c1p : ¬ (p = true ∧ m = true) := fun h => c1 (.inr h)
        by_cases c2 : p = true ∨ m = true
        · have so := SO_inf mode (L := L) h3.symm (by rw [← h1, ← h2]; exact c1p) (by rw [← h1, ← h2]; exact c2)
          rw [← h2] at so
          have e := HR.out.trans so
          subst e
          clear so h1 h2 h3 h4 h5 hst he c1
          have SGi : Hid (∀ (W : World) (b : Bool), Calls Tryz.prog 105 #[.int .u64 9218868437227405312, .bool b] W fun e w' => e = .returned (.int .u64 (if b = true then 9218868437227405312 + 9223372036854775808 else 9218868437227405312)) ∧ W = w') := fun W b => SG.out W _ b (by omega) (by omega)
          have c2' : (p = true ∧ m = false) ∨ (p = false ∧ m = true) := by cases p <;> cases m <;> simp_all
          rcases c2' with ⟨rfl, rfl⟩ | ⟨rfl, rfl⟩
          all_goals (
            go_wp2_with (first
              | (go_at_call 106; (with_reducible refine (IB.out _).mono ?_); rintro e w1 ⟨rfl, rfl⟩)
              | (go_at_call 105; (with_reducible refine (SGi.out _ _).mono ?_); rintro e w1 ⟨rfl, rfl⟩))
            go_ret2
            exact ⟨rfl, DW.out⟩)
        · have cp : p = false := by cases p <;> simp_all
          have cm : m = false := by cases m <;> simp_all
          subst cp
          subst cm
          have fin := (no_inf HU.out).1 ⟨h3.symm, h1.symm, h2.symm⟩
          have so := SO_sum mode (L := L) ⟨h3.symm, h1.symm, h2.symm⟩
          have e := HR.out.trans so
          clear HR
          have ev := vsf_fin fin
          rw [ev] at hE
          obtain ⟨d, hd⟩ : ∃ d, tot L dz = d := ⟨_, rfl⟩
          have td := TK.out d fin hd.symm
          rw [hd, ← td.2] at e
          rw [← td.2] at hE
          have ROd := RO.out
          have OKd := Lib.hid td.1
          clear so h1 h2 h3 hst he c1 c1p c2 fin ev hd td
          have C9 : Hid (∀ (W : World) (u : Value), QS 2200 1100 W u (S d) → Calls Tryz.prog 13 #[u, .agg #[.bool false, .slice none 0 0, .int .i64 0]] W fun e w' => e = .returned (.int .i64 (cmpv (S d) 0)) ∧ Below W.heap.size W w') := fun W u h => C0.out W u _ h
          by_cases h0 : S d = 0
          · rw [if_neg (fun h => h h0)] at e
            have kk : cmpv (S d) 0 = 0 := Z.cmpv_eq h0
            rw [kk] at C9
            have SGz : Hid (∀ (W : World) (b : Bool), Calls Tryz.prog 105 #[.int .u64 0, .bool b] W fun e w' => e = .returned (.int .u64 (if b = true then 0 + 9223372036854775808 else 0)) ∧ W = w') := fun W b => SG.out W _ b (by omega) (by omega)
            have hlen : (L.length : Int) = k := by have := HN.out; omega
            obtain ⟨o1, ho1⟩ : ∃ o, (z == (k : Int)) = o := ⟨_, rfl⟩
            obtain ⟨o2, ho2⟩ : ∃ o, (s == z) = o := ⟨_, rfl⟩
            obtain ⟨o3, ho3⟩ : ∃ o, (s == 0) = o := ⟨_, rfl⟩
            obtain ⟨o5, ho5⟩ : ∃ o, (mode == 2) = o := ⟨_, rfl⟩
            have g1 : zc L = L.length ↔ o1 = true := by rw [← ho1, beq_iff_eq]; omega
            have g2 : sgc L = zc L ↔ o2 = true := by rw [← ho2, beq_iff_eq]; omega
            have g3 : sgc L = 0 ↔ o3 = true := by rw [← ho3, beq_iff_eq]; omega
            have g4 : 0 < zc L ↔ z > 0 := by omega
            have g5 : mode = 2 ↔ o5 = true := by rw [← ho5, beq_iff_eq]
            simp only [g1, g2, g3, g4, g5] at e
            have He := Lib.hid e
            clear e
            clear g1 g2 g3 g4 g5 h4 h5 h0 kk hlen ROd
            by_cases hz : z > 0
            all_goals (
              cases o1 <;> cases o2 <;> cases o3 <;> cases o5
              all_goals (
                first
                | (exfalso; simp at ho1 ho2 ho3; omega)
                | (
                  go_wp2_with (first
                    | (go_at_call 13; (with_reducible refine (C9.out _ _ hE.out.q).mono ?_); rintro e w4 ⟨rfl, hb4⟩; have DW := Lib.hid (DW.out.trans (hb4.mono DW.out.size)); clear hb4)
                    | (go_at_call 105; (with_reducible refine (SGz.out _ _).mono ?_); rintro e w5 ⟨rfl, rfl⟩))
                  go_ret2
                  exact ⟨by rw [He.out]; first | (simp [hz]; done) | (have h9 : ¬ 0 < z := (by omega); simp [h9]; done), DW.out⟩)))
          · rw [if_pos h0] at e
            subst e
            have kk : (cmpv (S d) 0 != 0) = true := by
              rcases cmpv3 (S d) 0 with ⟨e, h⟩ | ⟨e, h⟩ | ⟨e, h⟩
              · rw [e]; rfl
              · exact absurd h h0
              · rw [e]; rfl
            have ROd := Lib.hid (fun (W : World) (u : Value) (h : QS 2200 1100 W u (S d)) => ROd W u d h OKd.out)
            generalize cmpv (S d) 0 = K at *
            clear h4 h5 h0
            go_wp2_with (first
              | (go_at_call 13; (with_reducible refine (C9.out _ _ hE.out.q).mono ?_); rintro e w4 ⟨rfl, hb4⟩; have hE := Lib.hid (hE.out.below hb4); have p0 := hE.out.k.at_ 0 rfl; have p1 := hE.out.k.at_ 1 rfl; have p2 := hE.out.k.at_ 2 rfl; have DW := Lib.hid (DW.out.trans (hb4.mono DW.out.size)); clear hb4)
              | (go_at_call 107; (with_reducible refine (ROd.out _ _ hE.out.q).mono ?_); rintro e w5 ⟨rfl, hb5⟩; have DW := Lib.hid (DW.out.trans (hb5.mono DW.out.size)); clear hb5))
            go_ret2
            exact ⟨rfl, DW.out⟩
end VC
end Go.Proofs.YtelblhgagpkjmaaGreatDoor

