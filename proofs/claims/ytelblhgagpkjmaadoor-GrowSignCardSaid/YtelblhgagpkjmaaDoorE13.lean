/-
  Texts glued together for a claim: Q6 Q7 Held3 O1 V5 V8 V6 O2.
-/
import Derived.Test.YtelblhgagpkjmaaDoorE3
import Derived.Test.YtelblhgagpkjmaaDoorE8
import Derived.Test.YtelblhgagpkjmaaDoorE9
import Derived.Test.YtelblhgagpkjmaaDoorE1
import Derived.Test.YtelblhgagpkjmaaDoorE7
/-
  The reference's numbers over a power of two: of a Dyad, of a number's bits.
-/
namespace Go.Proofs.YtelblhgagpkjmaaDoor
set_option linter.unusedVariables false
set_option linter.unusedSimpArgs false
open Go.RowKit
set_option linter.unusedVariables false
set_option linter.unusedSimpArgs false
namespace QC
open Z (Nz Tz cmpv big)
open ZC DC
end QC
end Go.Proofs.YtelblhgagpkjmaaDoor

/-
  The reference's numbers over a power of two, by their value in very small units; of a number's bits.
-/
namespace Go.Proofs.YtelblhgagpkjmaaDoor
set_option linter.unusedVariables false
set_option linter.unusedSimpArgs false
open Go.RowKit
set_option linter.unusedVariables false
set_option linter.unusedSimpArgs false
namespace QC
open Z (Nz Tz cmpv big)
open ZC DC
theorem mk_sc (a e : Int) (he : -60000 ≤ e) : sc (mkz a e) (-(mkt e)) = sc a e := by
  unfold mkz mkt
  by_cases h : 0 ≤ e
  · rw [if_pos h, if_pos h]
    have := sc_shift a 0 e.toNat (by omega)
    rw [show (-0 : Int) = 0 from rfl, this]
    congr 1; omega
  · rw [if_neg h, if_neg h, Int.neg_neg]
/-- a number over a power of two: what it is worth; bounds -/
def QS (M T : Nat) (w : World) (v : Value) (s : Int) : Prop := ∃ z t, QV w v z t ∧ z.natAbs < 2 ^ M ∧ 0 ≤ t ∧ t ≤ T ∧ sc z (-t) = s
def RetS (M T : Nat) (w : World) (s : Int) (e : Ending) (w' : World) : Prop := ∃ b A n c t z, e = .returned (.agg #[.bool b, .slice A n c, .int .i64 t]) ∧ ZL w' b A n c z ∧ z.natAbs < 2 ^ M ∧ 0 ≤ t ∧ t ≤ T ∧ sc z (-t) = s ∧ Below w.heap.size w w'
theorem QS.below {M T : Nat} {w w' : World} {v : Value} {s : Int} (h : QS M T w v s) (hb : Below w.heap.size w w') : QS M T w' v s := by
  obtain ⟨z, t, h, k⟩ := h
  exact ⟨z, t, qv_below h hb, k⟩
theorem natAbs_mul_pow (z : Int) (k : Nat) : (z * 2 ^ k).natAbs = z.natAbs * 2 ^ k := by rw [Int.natAbs_mul, Int.natAbs_pow]; rfl
theorem up_lt {a ta tb : Int} {M T : Nat} (h : a.natAbs < 2 ^ M) (h1 : 0 ≤ ta) (h2 : tb ≤ T) : (up a ta tb).natAbs < 2 ^ (M + T) := by
  unfold up
  rw [natAbs_mul_pow, Nat.pow_add]
  have h3 : (2 : Nat) ^ (max ta tb - ta).toNat ≤ 2 ^ T := Nat.pow_le_pow_right (by decide) (by omega)
  have h4 : 0 < (2 : Nat) ^ (max ta tb - ta).toNat := Nat.pow_pos (by decide)
  exact Nat.lt_of_lt_of_le (Nat.mul_lt_mul_of_pos_right h h4) (Nat.mul_le_mul_left _ h3)
theorem up_sc {a ta tb : Int} (h : -60000 ≤ -(max ta tb)) : sc (up a ta tb) (-(max ta tb)) = sc a (-ta) := by
  unfold up
  rw [sc_shift _ _ _ h]
  congr 1; omega
theorem lt_big {x : Nat} {M N : Nat} (h : x < 2 ^ M) (hM : M ≤ N) (hN : N ≠ 0) : x < big N := by
  have := pow2_bigN M N hM hN
  rw [Int.natAbs_pow] at this
  exact Nat.lt_trans h this
theorem cmpv_sc {x y k : Int} : cmpv (sc x k) (sc y k) = cmpv x y := by
  rcases Int.lt_trichotomy x y with h | h | h
  · rw [Z.cmpv_lt h, Z.cmpv_lt (sc_lt.2 h)]
  · rw [Z.cmpv_eq h, Z.cmpv_eq (by rw [h])]
  · rw [Z.cmpv_gt h, Z.cmpv_gt (sc_lt.2 h)]
theorem QCmp_s {M T M' T' : Nat} {u v : Value} {s s' : Int} {w : World} (h : QS M T w u s) (h' : QS M' T' w v s') (k1 : M + T' ≤ 400000) (k2 : M' + T ≤ 400000) (k3 : T ≤ 50000) (k4 : T' ≤ 50000) :
    Calls Tryd.prog 15 #[u, v] w fun e w' => e = .returned (.int .i64 (cmpv s s')) ∧ Below w.heap.size w w' := by
  obtain ⟨a, ta, ha, a1, a2, a3, a4⟩ := h
  obtain ⟨b, tb, hb, b1, b2, b3, b4⟩ := h'
  have c1 := up_lt (tb := tb) a1 a2 b3
  have c2 := up_lt (tb := ta) b1 b2 a3
  have := QCmp_c u v a b ta tb w ha hb (lt_big a1 (by omega) (by omega)) (lt_big b1 (by omega) (by omega)) (by omega) (by omega) (lt_big c1 (by omega) (by omega)) (lt_big c2 (by omega) (by omega))
  have e1 := up_sc (a := a) (ta := ta) (tb := tb) (by omega)
  have e2 := up_sc (a := b) (ta := tb) (tb := ta) (by omega)
  rw [show max tb ta = max ta tb by omega] at e2
  rw [← cmpv_sc (k := -(max ta tb)), e1, e2, a4, b4] at this
  exact this
theorem QAdd_s {M T M' T' : Nat} {u v : Value} {s s' : Int} {w : World} (h : QS M T w u s) (h' : QS M' T' w v s') (k1 : M + T' ≤ 400000) (k2 : M' + T ≤ 400000) (k3 : T ≤ 50000) (k4 : T' ≤ 50000) :
    Calls Tryd.prog 12 #[u, v] w (RetS (M + T' + M' + T + 1) (T + T') w (s + s')) := by
  obtain ⟨a, ta, ha, a1, a2, a3, a4⟩ := h
  obtain ⟨b, tb, hb, b1, b2, b3, b4⟩ := h'
  have c1 := up_lt (tb := tb) a1 a2 b3
  have c2 := up_lt (tb := ta) b1 b2 a3
  have := QAdd_c u v a b ta tb w ha hb (lt_big a1 (by omega) (by omega)) (lt_big b1 (by omega) (by omega)) (by omega) (by omega) (lt_big c1 (by omega) (by omega)) (lt_big c2 (by omega) (by omega))
  have e1 := up_sc (a := a) (ta := ta) (tb := tb) (by omega)
  have e2 := up_sc (a := b) (ta := tb) (tb := ta) (by omega)
  rw [show max tb ta = max ta tb by omega] at e2
  refine this.mono ?_
  rintro e w' ⟨b9, A9, n9, c9, rfl, hr, hb9⟩
  refine ⟨b9, A9, n9, c9, _, _, rfl, hr, ?_, by omega, by omega, by rw [sc_add, e1, e2, a4, b4], hb9⟩
  have d1 : (2 : Nat) ^ (M + T') ≤ 2 ^ (M + T' + M' + T) := Nat.pow_le_pow_right (by decide) (by omega)
  have d2 : (2 : Nat) ^ (M' + T) ≤ 2 ^ (M + T' + M' + T) := Nat.pow_le_pow_right (by decide) (by omega)
  have d3 : (2 : Nat) ^ (M + T' + M' + T + 1) = 2 ^ (M + T' + M' + T) * 2 := Nat.pow_succ _ _
  omega
theorem QNeg_s {M T : Nat} {u : Value} {s : Int} {w : World} (h : QS M T w u s) (k1 : M ≤ 400000) : Calls Tryd.prog 14 #[u] w (RetS M T w (-s)) := by
  obtain ⟨a, ta, ha, a1, a2, a3, a4⟩ := h
  refine (QNeg_c u a ta w ha (lt_big a1 (by omega) (by omega))).mono ?_
  rintro e w' ⟨b9, A9, n9, c9, rfl, hr, hb9⟩
  exact ⟨b9, A9, n9, c9, _, _, rfl, hr, by rw [Int.natAbs_neg]; exact a1, a2, a3, by rw [sc_neg, a4], hb9⟩
theorem mkz_lt {a e : Int} {M : Nat} {E : Nat} (h : a.natAbs < 2 ^ M) (he : e ≤ E) : (mkz a e).natAbs < 2 ^ (M + E) := by
  unfold mkz
  rw [Nat.pow_add]
  have h4 : (0 : Nat) < 2 ^ E := Nat.pow_pos (by decide)
  by_cases h0 : 0 ≤ e
  · rw [if_pos h0, natAbs_mul_pow]
    have h3 : (2 : Nat) ^ e.toNat ≤ 2 ^ E := Nat.pow_le_pow_right (by decide) (by omega)
    have h5 : (0 : Nat) < 2 ^ e.toNat := Nat.pow_pos (by decide)
    exact Nat.lt_of_lt_of_le (Nat.mul_lt_mul_of_pos_right h h5) (Nat.mul_le_mul_left _ h3)
  · rw [if_neg h0]
    exact Nat.lt_of_lt_of_le h (Nat.le_mul_of_pos_right _ h4)
theorem mkt_bd (e : Int) (T : Nat) (h : -(T : Int) ≤ e) : 0 ≤ mkt e ∧ mkt e ≤ T := by unfold mkt; split <;> omega
theorem RetV.s {w w' : World} {a e : Int} {M E T : Nat} {en : Ending} (h : RetV w (mkz a e) (mkt e) en w') (ha : a.natAbs < 2 ^ M) (h1 : e ≤ E) (h2 : -(T : Int) ≤ e) (hT : T ≤ 60000) : RetS (M + E) T w (sc a e) en w' := by
  obtain ⟨b9, A9, n9, c9, rfl, hr, hb9⟩ := h
  have := mkt_bd e T h2
  exact ⟨b9, A9, n9, c9, _, _, rfl, hr, mkz_lt ha h1, this.1, this.2, mk_sc a e (by omega), hb9⟩
theorem RetS.qs {M T : Nat} {w' : World} {s : Int} {b A n c} {t z : Int} (hr : ZL w' b A n c z) (h1 : z.natAbs < 2 ^ M) (h2 : 0 ≤ t) (h3 : t ≤ T) (h4 : sc z (-t) = s) : QS M T w' (.agg #[.bool b, .slice A n c, .int .i64 t]) s :=
  ⟨z, t, ⟨b, A, n, c, rfl, hr⟩, h1, h2, h3, h4⟩
end QC
end Go.Proofs.YtelblhgagpkjmaaDoor

/-
  A held region: one of three operations comes up.
-/
namespace Go.Proofs.YtelblhgagpkjmaaDoor
set_option linter.unusedVariables false
set_option linter.unusedSimpArgs false
open Go.RowKit
set_option linter.unusedVariables false
section
variable {P : Program} {ops : Array Oper} {Q : Exit → Act → World → Prop} {md : Region.Mode} {S : World → Prop} {nl : Nat}
end
end Go.Proofs.YtelblhgagpkjmaaDoor

/-
  The reference: halvings.
-/
namespace Go.Proofs.YtelblhgagpkjmaaDoor
set_option linter.unusedVariables false
set_option linter.unusedSimpArgs false
open Go.RowKit
set_option linter.unusedVariables false
set_option linter.unusedSimpArgs false
namespace QC
open Z (Nz Tz cmpv big)
open ZC DC
/-- z is y, N times doubled -/
def Tw (z y : Int) (N : Nat) : Prop := z = y * 2 ^ N ∧ y ≠ 0
theorem Tw.step {z y : Int} {N K : Nat} (h : Tw z y N) (hr : y % 2 ^ K = 0) : Tw z (y / 2 ^ K) (N + K) := by
  obtain ⟨h1, h2⟩ := h
  have h3 : y / 2 ^ K * 2 ^ K = y := Int.ediv_mul_cancel (Int.dvd_of_emod_eq_zero hr)
  refine ⟨?_, fun h => h2 (by rw [← h3, h, Int.zero_mul])⟩
  rw [h1, Nat.add_comm, Int.pow_add, ← Int.mul_assoc, h3]
theorem natAbs_pow2 (y : Int) (N : Nat) : (y * 2 ^ N).natAbs = y.natAbs * 2 ^ N := by
  rw [Int.natAbs_mul, Int.natAbs_pow]; rfl
theorem Tw.lt {z y : Int} {N M : Nat} (h : Tw z y N) (hM : z.natAbs < 2 ^ M) : N < M := by
  obtain ⟨h1, h2⟩ := h
  rw [h1, natAbs_pow2] at hM
  have h3 : 0 < y.natAbs := Int.natAbs_pos.2 h2
  have h4 : 2 ^ N < 2 ^ M := Nat.lt_of_le_of_lt (Nat.le_mul_of_pos_left _ h3) hM
  exact (Nat.pow_lt_pow_iff_right (by decide)).1 h4
theorem Tw.big {z y : Int} {N B : Nat} (h : Tw z y N) (hB : z.natAbs < B) : y.natAbs < B := by
  obtain ⟨h1, h2⟩ := h
  rw [h1, natAbs_pow2] at hB
  exact Nat.lt_of_le_of_lt (Nat.le_mul_of_pos_right _ (Nat.two_pow_pos N)) hB
end QC
end Go.Proofs.YtelblhgagpkjmaaDoor

/-
  The reference: are Dyads right?
-/
namespace Go.Proofs.YtelblhgagpkjmaaDoor
set_option linter.unusedVariables false
set_option linter.unusedSimpArgs false
open Go.RowKit
set_option linter.unusedVariables false
set_option linter.unusedSimpArgs false
namespace VD
open L NC NK DC
/-- what DyadRight asks, case by case; what it finds -/
inductive Ask (w : World) (b : Bool) (A : Option Addr) (n c : Nat) (x : Int) (er : Int) : Prop
  | far (h : ¬ (n ≤ 400 ∧ -10000 ≤ x ∧ x ≤ 10000)) (e : er = 2)
  | zneg (h : n ≤ 400 ∧ -10000 ≤ x ∧ x ≤ 10000) (hn : n = 0) (hb : b = true) (e : er = 3)
  | zexp (h : n ≤ 400 ∧ -10000 ≤ x ∧ x ≤ 10000) (hn : n = 0) (hb : b = false) (hx : (x != 0) = true) (e : er = 3)
  | zero (h : n ≤ 400 ∧ -10000 ≤ x ∧ x ≤ 10000) (hn : n = 0) (hb : b = false) (hx : x = 0) (e : er = 0)
  | even (h : n ≤ 400 ∧ -10000 ≤ x ∧ x ≤ 10000) (i : Nat) (hn : n = i + 1) (ad : Addr) (hA : A = some ad) (hl : ad.block < w.heap.size) (u : Int) (hu : w.cell? ad = some (.int .u32 u)) (h2 : (u.tmod 2 == 0) = true) (e : er = 3)
  | nought (h : n ≤ 400 ∧ -10000 ≤ x ∧ x ≤ 10000) (i : Nat) (hn : n = i + 1) (ad : Addr) (hA : A = some ad) (hl : ad.block < w.heap.size) (u v : Int) (hu : w.cell? ad = some (.int .u32 u)) (h2 : (u.tmod 2 == 0) = false) (hv : w.cell? (ad.add i) = some (.int .u32 v)) (h3 : (v == 0) = true) (e : er = 3)
  | good (h : n ≤ 400 ∧ -10000 ≤ x ∧ x ≤ 10000) (i : Nat) (hn : n = i + 1) (ad : Addr) (hA : A = some ad) (hl : ad.block < w.heap.size) (u v : Int) (hu : w.cell? ad = some (.int .u32 u)) (h2 : (u.tmod 2 == 0) = false) (hv : w.cell? (ad.add i) = some (.int .u32 v)) (h3 : (v == 0) = false) (e : er = 0)
theorem ask {w : World} {b : Bool} {A : Option Addr} {n c : Nat} {x : Int} {d : Dy} (h : DV w (.agg #[.bool b, .slice A n c, .int .i64 x]) d) : Ask w b A n c x d.er := by
  obtain ⟨b', A', n', c', x', l, e, hs, Ll, hl, he, -, -⟩ := h
  injection e with e
  have e1 := congrArg Array.toList e
  simp only [List.cons.injEq, Value.bool.injEq, Value.slice.injEq, Value.int.injEq, and_true, true_and] at e1
  obtain ⟨rfl, ⟨rfl, rfl, rfl⟩, rfl⟩ := e1
  have hn := hs.len_.1
  rw [he]
  unfold dchk
  by_cases h1 : 400 < l.length ∨ ¬ (-10000 ≤ x ∧ x ≤ 10000)
  · rw [if_pos h1]; exact .far (by omega) rfl
  · rw [if_neg h1]
    have hb : n ≤ 400 ∧ -10000 ≤ x ∧ x ≤ 10000 := by omega
    by_cases h0 : l = []
    · have hn0 : n = 0 := by rw [hn, h0]; rfl
      have e2 : nrm b l x = (!b && decide (x = 0)) := by unfold nrm; rw [if_pos h0]
      rw [e2]
      cases b
      · by_cases hx : x = 0
        · rw [if_pos (by simp [hx])]; exact .zero hb hn0 rfl hx rfl
        · rw [if_neg (by simp [hx])]; exact .zexp hb hn0 rfl (by simp [hx]) rfl
      · rw [if_neg (by simp)]; exact .zneg hb hn0 rfl rfl
    · have hp := List.length_pos_iff.2 h0
      obtain ⟨i, hi⟩ : ∃ i, n = i + 1 := ⟨n - 1, by omega⟩
      obtain ⟨ad, c2, e3, hc2, hbl, hu⟩ := hs.at_ 0 hp
      injection e3 with e4 e5 e6
      subst e4
      obtain ⟨ad', c3, e7, hc3, hbl', hv⟩ := hs.at_ i (by omega)
      injection e7 with e8 e9 e10
      obtain rfl := Option.some.inj e8
      have hu2 : w.cell? ad = some (.int .u32 (l.getD 0 0)) := by simpa [Addr.add] using hu
      have b0 := Ll.at_ 0
      have e2 : nrm b l x = (decide (chk l = 0) && decide (lv l % 2 = 1)) := by unfold nrm; rw [if_neg h0]
      have hlast : l.getLast? = some (l.getD i 0) := by
        rw [List.getLast?_eq_getElem?, List.getD_eq_getElem?_getD, show l.length - 1 = i by omega, List.getElem?_eq_getElem (by omega)]; rfl
      rw [e2, lv_odd]
      have hc : chk l = 0 ↔ l.getD i 0 ≠ 0 := by
        unfold chk
        rw [if_neg (by omega), hlast]
        generalize l.getD i 0 = v
        by_cases h9 : v = 0
        · rw [if_pos (by rw [h9])]; simp [h9]
        · rw [if_neg (by simpa using h9)]; simp [h9]
      clear e2 hlast hu
      generalize l.getD 0 0 = u at *
      generalize l.getD i 0 = v at *
      have t2 : u.tmod 2 = u % 2 := Int.tmod_eq_emod_of_nonneg b0.1
      by_cases ho : u % 2 = 1
      · have t3 : (u.tmod 2 == 0) = false := by rw [t2, ho]; rfl
        by_cases h9 : v = 0
        · rw [if_neg (by rw [decide_eq_false fun h => hc.1 h h9]; simp)]
          exact .nought hb i hi ad rfl hbl _ _ hu2 t3 hv (by simp [h9]) rfl
        · rw [if_pos (by rw [decide_eq_true (hc.2 h9), decide_eq_true ho]; rfl)]
          exact .good hb i hi ad rfl hbl _ _ hu2 t3 hv (by simp [h9]) rfl
      · rw [if_neg (by rw [decide_eq_false ho]; simp)]
        exact .even hb i hi ad rfl hbl _ hu2 (by rw [t2, beq_iff_eq]; omega) rfl
end VD
end Go.Proofs.YtelblhgagpkjmaaDoor

/-
  The reference: is it zero in all fields?
-/
namespace Go.Proofs.YtelblhgagpkjmaaDoor
set_option linter.unusedVariables false
set_option linter.unusedSimpArgs false
open Go.RowKit
set_option linter.unusedVariables false
set_option linter.unusedSimpArgs false
namespace VD
open L NC NK DC
end VD
end Go.Proofs.YtelblhgagpkjmaaDoor

/-
  The reference: DyadRight of one Dyad, of two.
-/
namespace Go.Proofs.YtelblhgagpkjmaaDoor
set_option linter.unusedVariables false
set_option linter.unusedSimpArgs false
open Go.RowKit
set_option linter.unusedVariables false
set_option linter.unusedSimpArgs false
namespace VD
open L NC NK DC
end VD
end Go.Proofs.YtelblhgagpkjmaaDoor

/-
  The reference: just what is to be told of a number.
-/
namespace Go.Proofs.YtelblhgagpkjmaaDoor
set_option linter.unusedVariables false
set_option linter.unusedSimpArgs false
open Go.RowKit
set_option linter.unusedVariables false
set_option linter.unusedSimpArgs false
namespace QC
open Z (Nz Tz cmpv big)
open ZC DC
end QC
end Go.Proofs.YtelblhgagpkjmaaDoor

