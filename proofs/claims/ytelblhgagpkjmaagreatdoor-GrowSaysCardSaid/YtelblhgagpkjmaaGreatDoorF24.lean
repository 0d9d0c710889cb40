/-
  Texts glued together for a claim: XG1 XG2 XG3 XG4 XG5 XG6 XG7.
-/
import Derived.Test.YtelblhgagpkjmaaGreatDoorF11
import Derived.Test.YtelblhgagpkjmaaGreatDoorF12
import Derived.Test.YtelblhgagpkjmaaGreatDoorF22
import Derived.Test.YtelblhgagpkjmaaGreatDoorF23
/-
  SHEWCHUK, pure: expansions over whole numbers: a number added is an expansion again, of the same value; its parts are no greater than there is room for.
-/
namespace Go.Proofs.YtelblhgagpkjmaaGreatDoor
set_option linter.unusedVariables false
set_option linter.unusedSimpArgs false
set_option linter.unusedVariables false
set_option linter.unusedSimpArgs false
namespace XC
/-- all of a lies below all of b -/
def Lw (a b : Int) : Prop := ∃ t : Nat, (a.natAbs : Int) < 2 ^ t ∧ b % 2 ^ t = 0
/-- an expansion -/
def Xp : List Int → Prop
  | [] => True
  | a :: t => Fp a ∧ a ≠ 0 ∧ (∀ b, t.head? = some b → Lw a b) ∧ Xp t
def tl : List Int → Int
  | [] => 0
  | a :: t => a + tl t
theorem mod_le {b : Int} {s t : Nat} (h : s ≤ t) (hb : b % 2 ^ t = 0) : b % 2 ^ s = 0 := by
  obtain ⟨q, hq⟩ := Int.dvd_of_emod_eq_zero hb
  rw [hq, tsplit h, Int.mul_comm (2 ^ (t - s)), Int.mul_assoc]
  exact Int.mul_emod_right _ _
theorem mod_ge {b : Int} {t : Nat} (hb : b % 2 ^ t = 0) (h0 : b ≠ 0) : (2 : Int) ^ t ≤ b.natAbs := by
  obtain ⟨q, hq⟩ := Int.dvd_of_emod_eq_zero hb
  have hp := tp t
  have hq0 : q ≠ 0 := fun h => h0 (by rw [hq, h, Int.mul_zero])
  rw [hq, Int.natAbs_mul, Int.natCast_mul, show (((2 : Int) ^ t).natAbs : Int) = 2 ^ t by omega]
  have := Int.mul_le_mul_of_nonneg_left (show (1 : Int) ≤ q.natAbs by omega) (Int.le_of_lt hp)
  omega
theorem tinj {s t : Nat} (h : (2 : Int) ^ s < 2 ^ t) : s < t := by
  rcases Nat.lt_or_ge s t with g | g
  · exact g
  · have := tle g; omega
/-- what lies above the first one lies above all that is below it -/
theorem xp_mod {l : List Int} (h : Xp l) : ∀ {t : Nat}, (∀ b, l.head? = some b → b % 2 ^ t = 0) → ∀ b ∈ l, b % 2 ^ t = 0 := by
  induction l with
  | nil => intro t _ b hb; cases hb
  | cons a r ih =>
    intro t ht b hb
    obtain ⟨h1, h2, h3, h4⟩ := h
    have ha := ht a rfl
    rcases List.mem_cons.1 hb with rfl | hb
    · exact ha
    · refine ih h4 (fun c hc => ?_) b hb
      obtain ⟨s, s1, s2⟩ := h3 c hc
      have := mod_ge ha h2
      exact mod_le (Nat.le_of_lt (tinj (by omega))) s2
/-- what is grown of q by l: h -/
inductive Gr : Int → List Int → List Int → Prop
  | last (q : Int) : Gr q [] (if q = 0 then [] else [q])
  | more (q e s : Int) (l h : List Int) : Nr (q + e) s → Gr s l h → Gr q (e :: l) (if q + e - s = 0 then h else (q + e - s) :: h)
/-- all but the last one, together, lie below it: the sign is the last one's -/
theorem xp_last : ∀ {l : List Int}, Xp l → ∀ {t : Nat}, (∀ b ∈ l, b % 2 ^ t = 0) → ∀ z : Int, (z.natAbs : Int) < 2 ^ t → l ≠ [] → (0 < l.getLast?.getD 0 ∧ 0 < z + tl l) ∨ (l.getLast?.getD 0 < 0 ∧ z + tl l < 0) := by
  intro l
  induction l with
  | nil => intro _ t _ z _ h; exact absurd rfl h
  | cons a r ih =>
    intro h t ht z hz _
    obtain ⟨h1, h2, h3, h4⟩ := h
    have ta := ht a (by simp)
    have ga := mod_ge ta h2
    cases r with
    | nil =>
      simp only [tl, List.getLast?_singleton, Option.getD_some]
      omega
    | cons f r' =>
      obtain ⟨k, k1, k2⟩ := h3 f rfl
      have kr := xp_mod h4 (t := k) (fun b hb => by cases hb; exact k2)
      have hk : (2 : Int) ^ t + a.natAbs ≤ 2 ^ k := by
        have hlt := tinj (show (2 : Int) ^ t < 2 ^ k by omega)
        obtain ⟨A, hA⟩ := Int.dvd_of_emod_eq_zero ta
        have e := tsplit (Nat.le_of_lt hlt)
        have hp := tp t
        have eA : (a.natAbs : Int) = A.natAbs * 2 ^ t := by
          rw [hA, Int.natAbs_mul, Int.natCast_mul, show (((2 : Int) ^ t).natAbs : Int) = 2 ^ t by omega, Int.mul_comm]
        rw [eA, e] at k1 ⊢
        have := Int.lt_of_mul_lt_mul_right k1 (Int.le_of_lt hp)
        have := Int.mul_le_mul_of_nonneg_right (show (A.natAbs : Int) + 1 ≤ 2 ^ (k - t) by omega) (Int.le_of_lt hp)
        rw [Int.add_mul, Int.one_mul] at this
        omega
      have := ih h4 kr (z + a) (by omega) (by simp)
      rw [show z + tl (a :: f :: r') = z + a + tl (f :: r') by simp only [tl]; omega]
      simpa using this
end XC
end Go.Proofs.YtelblhgagpkjmaaGreatDoor

/-
  Package grow, pure: TwoSum again for greater numbers; a number grown by an expansion, by numbers.
-/
namespace Go.Proofs.YtelblhgagpkjmaaGreatDoor
set_option linter.unusedVariables false
set_option linter.unusedSimpArgs false
open Go.RowKit
set_option linter.unusedVariables false
set_option linter.unusedSimpArgs false
namespace XC
open L NC NK DC RC SC PC
/-- below 2^916, over the least unit -/
@[irreducible] def LLB : Int := 2 ^ 1990
theorem limB {M : Int} (hM : M = 9218868437227405311) : 400 * (LLB * e0) ≤ U M := by
  obtain ⟨k, hk⟩ : ∃ k : Nat, k = 2045 := ⟨_, rfl⟩
  have hU := (U_of (k := k) (q := 9007199254740991) (by omega) (by omega) (by omega))
  rw [show (k : Int) * 4503599627370496 + 9007199254740991 = M by omega] at hU
  rw [hU.1, e0_pow]
  obtain ⟨a, ha⟩ : ∃ a : Nat, a = 1990 := ⟨_, rfl⟩
  have e : LLB = 2 ^ a := by unfold LLB; rw [ha]
  rw [e]
  have h1 : (2 : Int) ^ a ≤ 2 ^ k := tle (by omega)
  have h2 := Int.mul_le_mul_of_nonneg_right h1 (Int.le_of_lt e0_pos)
  have h3 := Int.mul_nonneg (Int.le_of_lt (tp a)) (Int.le_of_lt e0_pos)
  generalize (2 : Int) ^ a * e0 = p at *
  generalize (2 : Int) ^ k * e0 = q at *
  omega
/-- what Add tells: none is an error of TwoSum's -/
noncomputable def AG : Int → List Int → Option (List Int)
  | q, [] => some (if F.cls q = 1 then [] else [q])
  | q, e :: l => if (T2 q e).2.2 ≠ 0 then none else (AG (T2 q e).1 l).map fun h => if F.cls (T2 q e).2.1 = 1 then h else (T2 q e).2.1 :: h
/-- numbers and their values over the least unit -/
def Vl : List Int → List Int → Prop
  | [], [] => True
  | x :: L, n :: xs => fi x ∧ val x = n * e0 ∧ Vl L xs
  | _, _ => False
theorem vl_len : ∀ {L xs : List Int}, Vl L xs → L.length = xs.length
  | [], [], _ => rfl
  | x :: L, n :: xs, h => by simp [vl_len h.2.2]
  | [], _ :: _, h => h.elim
  | _ :: _, [], h => h.elim
theorem vl_ex : ∀ {L : List Int}, (∀ x ∈ L, fi x) → ∃ xs, Vl L xs
  | [], _ => ⟨[], trivial⟩
  | x :: L, h => by
    obtain ⟨n, e, -⟩ := val_fp (h x (by simp))
    obtain ⟨xs, hx⟩ := vl_ex (L := L) fun y hy => h y (by simp [hy])
    exact ⟨n :: xs, h x (by simp), e, hx⟩
end XC
end Go.Proofs.YtelblhgagpkjmaaGreatDoor

/-
  Package grow, pure: an expansion by its numbers (isX) and by whole numbers (Xp); a number added (SHEWCHUK).
-/
namespace Go.Proofs.YtelblhgagpkjmaaGreatDoor
set_option linter.unusedVariables false
set_option linter.unusedSimpArgs false
open Go.RowKit
set_option linter.unusedVariables false
set_option linter.unusedSimpArgs false
namespace XC
open L NC NK DC RC SC PC
/-- the weight of the lowest bit -/
def lowx (x : Int) : Int := (OfD x).d.x
/-- an expansion, by its numbers -/
def isX : List Int → Prop
  | [] => True
  | x :: t => fi x ∧ (OfD x).d.m ≠ 0 ∧ (∀ y, t.head? = some y → topx x < lowx y) ∧ isX t
theorem m_iff {x X : Int} (v : val x = X * e0) : (OfD x).d.m = 0 ↔ X = 0 := by
  rw [S_m]
  have : S (OfD x).d = X * e0 := v
  rw [this]
  constructor
  · intro q
    rcases Int.mul_eq_zero.1 q with k | k
    · exact k
    · have := e0_pos; omega
  · intro q; rw [q, Int.zero_mul]
/-- one lies below another, both ways -/
theorem lw_iff {x y X Y : Int} (fx : fi x) (fy : fi y) (vx : val x = X * e0) (vy : val y = Y * e0) (hx : (OfD x).d.m ≠ 0) (hy : (OfD y).d.m ≠ 0) : topx x < lowx y ↔ Lw X Y := by
  obtain ⟨t1, t2, t3, t4⟩ := top_p fx hx
  have gy := of_fit fy
  have hl := gy.2.x
  have h0 := e0_pos
  have ux : sz x = X.natAbs * e0 := by
    have e : val x = sgm (F.sgn x) (sz x) := val_eq fx
    have s0 : 0 ≤ sz x := U_pos (by have := fx.1; omega)
    rw [vx] at e
    rcases Int.lt_or_le X 0 with q | q
    · rw [show (X.natAbs : Int) = -X by omega, Int.neg_mul]
      have := Int.mul_neg_of_neg_of_pos q h0
      unfold sgm at e; split at e <;> omega
    · rw [show (X.natAbs : Int) = X by omega]
      have := Int.mul_nonneg q (Int.le_of_lt h0)
      unfold sgm at e; split at e <;> omega
  obtain ⟨k, hk⟩ : ∃ k : Nat, (k : Int) - 1074 = lowx y := ⟨(lowx y + 1074).toNat, by unfold lowx; omega⟩
  have eY : Y = (OfD y).d.m * 2 ^ k := by
    have e : val y = (OfD y).d.m * sc 1 (lowx y) := sc_mul1 _ _
    rw [vy, ← hk, e0_pow, ← Int.mul_assoc] at e
    exact Int.eq_of_mul_eq_mul_right (Int.ne_of_gt h0) e
  have hodd : (OfD y).d.m % 2 = 1 := by
    rcases gy.2.ok.2.1 with q | q
    · exact absurd q.1 hy
    · exact q
  constructor
  · intro h
    refine ⟨k, ?_, by rw [eY]; exact Int.mul_emod_left _ _⟩
    have h1 : sz x < sc 1 ((k : Int) - 1074) := by
      have := sc1_le (x := topx x + 1) (y := (k : Int) - 1074) (by omega) (by omega)
      omega
    rw [ux, e0_pow] at h1
    exact Int.lt_of_mul_lt_mul_right h1 (Int.le_of_lt h0)
  · rintro ⟨t, h1, h2⟩
    have htk : t ≤ k := by
      rcases Nat.lt_or_ge k t with g | g
      · exfalso
        obtain ⟨q, hq⟩ := Int.dvd_of_emod_eq_zero h2
        rw [eY, tsplit (show k ≤ t by omega), Int.mul_comm (2 ^ (t - k)), Int.mul_assoc, Int.mul_comm] at hq
        have hq := Int.eq_of_mul_eq_mul_left (Int.ne_of_gt (tp k)) hq
        obtain ⟨j, hj⟩ : ∃ j, t - k = j + 1 := ⟨t - k - 1, by omega⟩
        rw [hj, Int.pow_succ, Int.mul_comm (2 ^ j) 2, Int.mul_assoc] at hq
        generalize 2 ^ j * q = z at hq
        omega
      · exact g
    have h3 : sz x < sc 1 ((k : Int) - 1074) := by
      rw [ux, e0_pow]
      have := tle htk
      exact Int.mul_lt_mul_of_pos_right (by omega) h0
    have := sc1_lt (Int.lt_of_le_of_lt t1 h3) (by omega)
    omega
theorem vl_head : ∀ {L xs : List Int} {n : Int}, Vl L xs → xs.head? = some n → ∃ y, L.head? = some y ∧ fi y ∧ val y = n * e0
  | x :: L, m :: xs, n, h, e => by cases e; exact ⟨x, rfl, h.1, h.2.1⟩
  | [], [], _, _, e => by cases e
  | [], _ :: _, _, h, _ => h.elim
  | _ :: _, [], _, h, _ => h.elim
theorem isX_iff : ∀ {L xs : List Int}, Vl L xs → (isX L ↔ Xp xs)
  | [], [], _ => Iff.rfl
  | x :: L, n :: xs, h => by
    have ih := isX_iff h.2.2
    have pn : Fp n := by
      obtain ⟨n', v, p⟩ := val_fp h.1
      rw [h.2.1] at v
      rw [Int.eq_of_mul_eq_mul_right (Int.ne_of_gt e0_pos) v]; exact p
    have mi := m_iff h.2.1
    constructor
    · rintro ⟨a1, a2, a3, a4⟩
      refine ⟨pn, fun q => a2 (mi.2 q), fun b hb => ?_, ih.1 a4⟩
      obtain ⟨y, k1, k2, k3⟩ := vl_head h.2.2 hb
      have k4 : (OfD y).d.m ≠ 0 := by
        cases L with
        | nil => cases k1
        | cons z L' => cases k1; exact a4.2.1
      exact (lw_iff h.1 k2 h.2.1 k3 a2 k4).1 (a3 y k1)
    · rintro ⟨a1, a2, a3, a4⟩
      have a2' : (OfD x).d.m ≠ 0 := fun q => a2 (mi.1 q)
      have b4 := ih.2 a4
      refine ⟨h.1, a2', fun y hy => ?_, b4⟩
      cases L with
      | nil => cases hy
      | cons z L' =>
        cases hy
        cases xs with
        | nil => exact h.2.2.elim
        | cons m xs' => exact (lw_iff h.1 h.2.2.1 h.2.1 h.2.2.2.1 a2' b4.2.1).2 (a3 m rfl)
  | [], _ :: _, h => h.elim
  | _ :: _, [], h => h.elim
theorem vl_vs : ∀ {L xs : List Int}, Vl L xs → vs L = tl xs * e0
  | x :: L, n :: xs, h => by simp only [vs, tl]; rw [h.2.1, vl_vs h.2.2, Int.add_mul]
  | [], [], _ => by simp [vs, tl]
  | [], _ :: _, h => h.elim
  | _ :: _, [], h => h.elim
end XC
end Go.Proofs.YtelblhgagpkjmaaGreatDoor

/-
  Package grow, pure: parts stay where there is room: many numbers added, one by one.
-/
namespace Go.Proofs.YtelblhgagpkjmaaGreatDoor
set_option linter.unusedVariables false
set_option linter.unusedSimpArgs false
open Go.RowKit
set_option linter.unusedVariables false
set_option linter.unusedSimpArgs false
namespace XC
open L NC NK DC RC SC PC
theorem isX_fi : ∀ {L : List Int}, isX L → ∀ y ∈ L, fi y
  | [], _, y, hy => by cases hy
  | x :: L, h, y, hy => by
    rcases List.mem_cons.1 hy with rfl | hy
    · exact h.1
    · exact isX_fi h.2.2.2 y hy
end XC
end Go.Proofs.YtelblhgagpkjmaaGreatDoor

/-
  Package grow, pure: the sign; what Check asks, by sizes; many numbers added; the side of three points.
-/
namespace Go.Proofs.YtelblhgagpkjmaaGreatDoor
set_option linter.unusedVariables false
set_option linter.unusedSimpArgs false
open Go.RowKit
set_option linter.unusedVariables false
set_option linter.unusedSimpArgs false
namespace XC
open L NC NK DC RC SC PC
/-- one lies below another, by its size -/
theorem sz_low {x y : Int} (fx : fi x) (fy : fi y) (hx : (OfD x).d.m ≠ 0) : sz x < sc 1 (lowx y) ↔ topx x < lowx y := by
  obtain ⟨t1, t2, t3, t4⟩ := top_p fx hx
  have hl := (of_fit fy).2.x
  constructor
  · intro h
    exact sc1_lt (Int.lt_of_le_of_lt t1 h) (by unfold lowx; omega)
  · intro h
    have := sc1_le (x := topx x + 1) (y := lowx y) (by omega) (by omega)
    omega
theorem vl_last : ∀ {L xs : List Int}, Vl L xs → L ≠ [] → val (L.getLast?.getD 0) = xs.getLast?.getD 0 * e0 ∧ fi (L.getLast?.getD 0)
  | [x], [n], h, _ => ⟨h.2.1, h.1⟩
  | x :: y :: L, n :: m :: xs, h, _ => by
    have := vl_last (L := y :: L) (xs := m :: xs) h.2.2 (by simp)
    simpa using this
  | [], _, _, h => absurd rfl h
  | [_], [], h, _ => h.elim
  | [_], _ :: _ :: _, h, _ => h.2.2.elim
  | _ :: _ :: _, [], h, _ => h.elim
  | _ :: _ :: _, [_], h, _ => h.2.2.elim
/-- SHEWCHUK: the sign of all is that of the last one -/
theorem vs_sign {L : List Int} (hL : isX L) (h0 : L ≠ []) : (0 < val (L.getLast?.getD 0) ∧ 0 < vs L) ∨ (val (L.getLast?.getD 0) < 0 ∧ vs L < 0) := by
  obtain ⟨xs, hv⟩ := vl_ex (isX_fi hL)
  have hX := (isX_iff hv).1 hL
  have hn : xs ≠ [] := fun q => h0 (by have := vl_len hv; rw [q] at this; simpa using this)
  have hp := e0_pos
  have k := xp_last hX (t := 0) (fun b _ => by simp [Int.emod_one]) 0 (by simp) hn
  rw [(vl_last hv h0).1, vl_vs hv]
  rw [Int.zero_add] at k
  rcases k with ⟨a, b⟩ | ⟨a, b⟩
  · exact .inl ⟨Int.mul_pos a hp, Int.mul_pos b hp⟩
  · exact .inr ⟨Int.mul_neg_of_neg_of_pos a hp, Int.mul_neg_of_neg_of_pos b hp⟩
theorem vs_zero {L : List Int} (hL : isX L) : vs L = 0 ↔ L = [] := by
  constructor
  · intro h
    rcases Classical.em (L = []) with q | q
    · exact q
    · rcases vs_sign hL q with ⟨-, k⟩ | ⟨-, k⟩ <;> omega
  · rintro rfl; rfl
end XC
end Go.Proofs.YtelblhgagpkjmaaGreatDoor

/-
  Package grow, pure: what Check, Value, Sign, Add, Join and Turn tell.
-/
namespace Go.Proofs.YtelblhgagpkjmaaGreatDoor
set_option linter.unusedVariables false
set_option linter.unusedSimpArgs false
open Go.RowKit
set_option linter.unusedVariables false
set_option linter.unusedSimpArgs false
namespace XC
open L NC NK DC RC SC PC
open Z (cmpv)
noncomputable instance (L : List Int) : Decidable (isX L) := Classical.propDecidable _
/-- what Check tells -/
noncomputable def gCk (L : List Int) : Int := if 60 < L.length then 2 else if ∃ x ∈ L, F.exq x = 2047 then 4 else if isX L then 0 else 3
/-- what Value tells -/
noncomputable def gVa (L : List Int) : Re := if gCk L = 0 then ⟨0, tot L dz⟩ else ⟨gCk L, dz⟩
/-- what Sign tells -/
noncomputable def gSn (L : List Int) : Int × Int := if gCk L = 0 then (cmpv (vs L) 0, 0) else (0, gCk L)
/-- what Add tells: the error, and the list -/
noncomputable def gAd (L : List Int) (x : Int) : Int × List Int :=
  if gCk L = 0 then (if F.exq x = 2047 then (4, []) else match AG x L with
    | none => (2, [])
    | some H => (0, H)) else (gCk L, [])
/-- the rest of Join -/
noncomputable def gJe : List Int → List Int → Int × List Int
  | a, [] => if 60 < a.length then (2, []) else (0, a)
  | a, x :: b => if (gAd a x).1 = 0 then gJe (gAd a x).2 b else ((gAd a x).1, [])
/-- what Join tells -/
noncomputable def gJo (a b : List Int) : Int × List Int := if gCk a = 0 then (if gCk b = 0 then gJe a b else (gCk b, [])) else (gCk a, [])
/-- neither 0 nor from 2^-400 to 2^400 -/
def gFr (x : Int) : Prop := x % 9223372036854775808 ≠ 0 ∧ (x % 9223372036854775808 < 2805742567851819008 ∨ 6408622269748215808 < x % 9223372036854775808)
theorem gCk_0 {L : List Int} : gCk L = 0 ↔ L.length ≤ 60 ∧ isX L := by
  unfold gCk
  constructor
  · intro h
    split at h
    · omega
    · split at h
      · omega
      · split at h
        · exact ⟨by omega, by assumption⟩
        · omega
  · rintro ⟨h1, h2⟩
    rw [if_neg (by omega), if_neg, if_pos h2]
    rintro ⟨x, hx, hf⟩
    exact (isX_fi h2 x hx).2.2 hf
theorem gCk_fi {L : List Int} (h : gCk L = 0) : ∀ x ∈ L, fi x := isX_fi (gCk_0.1 h).2
/-- an expansion, number by number -/
theorem isX_at : ∀ {L : List Int}, isX L ↔ ∀ k, k < L.length → fi (L.getD k 0) ∧ (OfD (L.getD k 0)).d.m ≠ 0 ∧ (∀ j, j + 1 = k → topx (L.getD j 0) < lowx (L.getD k 0))
  | [] => by
    constructor
    · intro _ k hk; cases hk
    · intro _; trivial
  | x :: t => by
    have ih := isX_at (L := t)
    constructor
    · rintro ⟨h1, h2, h3, h4⟩ k hk
      cases k with
      | zero => exact ⟨h1, h2, fun j hj => by omega⟩
      | succ k =>
        obtain ⟨a, b, c⟩ := ih.1 h4 k (by simpa using hk)
        refine ⟨a, b, fun j hj => ?_⟩
        obtain rfl : j = k := by omega
        cases j with
        | zero =>
          cases t with
          | nil => simp at hk
          | cons y s => exact h3 y rfl
        | succ i => exact c i rfl
    · intro h
      obtain ⟨a, b, -⟩ := h 0 (by simp)
      refine ⟨a, b, ?_, ih.2 fun k hk => ?_⟩
      · intro y hy
        cases t with
        | nil => cases hy
        | cons z s =>
          cases hy
          exact (h 1 (by simp)).2.2 0 rfl
      · obtain ⟨a, b, c⟩ := h (k + 1) (by simpa using hk)
        exact ⟨a, b, fun j hj => c (j + 1) (by omega)⟩
theorem gVa_ok {L : List Int} (h : gCk L = 0) : (gVa L).e = 0 ∧ Ok (gVa L).d ∧ S (gVa L).d = vs L := by
  obtain ⟨h1, h2⟩ := gCk_0.1 h
  have := tot_ok (isX_fi h2) (by omega)
  unfold gVa
  rw [if_pos h]
  exact ⟨rfl, this.1, this.2⟩
/-- a number is 0 just if its Dyad is -/
theorem cls_m {x : Int} (h : fi x) : F.cls x = 1 ↔ (OfD x).d.m = 0 := by
  rw [← val0 h, S_m]; rfl
theorem u_nil : u64s [] := fun y hy => nomatch hy
/-- AG's lists -/
theorem AG_bd : ∀ {L : List Int} {x : Int} {H : List Int}, u64s L → (0 ≤ x ∧ x ≤ 18446744073709551615) → AG x L = some H → u64s H ∧ H.length ≤ L.length + 1
  | [], x, H, _, hx, h => by
    unfold AG at h
    cases h
    split
    · exact ⟨u_nil, by simp⟩
    · exact ⟨fun y hy => by simp at hy; subst hy; exact hx, by simp⟩
  | e :: L, x, H, hL, hx, h => by
    unfold AG at h
    have he := hL e (by simp)
    have b1 : 0 ≤ (T2 x e).1 ∧ (T2 x e).1 ≤ 18446744073709551615 := by
      unfold T2
      split
      · simp
      · split
        · simp
        · exact AT_bd 0 (u2 hx he)
    have b2 : 0 ≤ (T2 x e).2.1 ∧ (T2 x e).2.1 ≤ 18446744073709551615 := by
      have a0 : ∀ {p q : Int}, (0 ≤ p ∧ p ≤ 18446744073709551615) → (0 ≤ q ∧ q ≤ 18446744073709551615) → 0 ≤ ad p q ∧ ad p q ≤ 18446744073709551615 := fun a b => AT_bd 0 (u2 a b)
      have s0 : ∀ {p q : Int}, (0 ≤ p ∧ p ≤ 18446744073709551615) → (0 ≤ q ∧ q ≤ 18446744073709551615) → 0 ≤ sb p q ∧ sb p q ≤ 18446744073709551615 := fun a b => AT_bd 0 (u2 a (F.neg_bd _ b.1 b.2))
      unfold T2
      split
      · simp
      · split
        · simp
        · have bs := a0 hx he
          have ba := s0 bs he
          exact a0 (s0 hx ba) (s0 he (s0 bs ba))
    split at h
    · cases h
    · cases hr : AG (T2 x e).1 L with
      | none => rw [hr] at h; cases h
      | some r =>
        rw [hr] at h
        have ih := AG_bd (L := L) (fun y hy => hL y (by simp [hy])) b1 hr
        cases h
        split
        · exact ⟨ih.1, by simp; omega⟩
        · exact ⟨fun y hy => by rcases List.mem_cons.1 hy with rfl | hy; exact b2; exact ih.1 y hy, by simp; omega⟩
theorem gAd_bd {L : List Int} {x : Int} (hL : u64s L) (hx : 0 ≤ x ∧ x ≤ 18446744073709551615) : u64s (gAd L x).2 ∧ (gAd L x).2.length ≤ 61 := by
  unfold gAd
  have e : u64s [] ∧ ([] : List Int).length ≤ 61 := ⟨u_nil, by simp⟩
  split
  · have hl := (gCk_0.1 (by assumption)).1
    split
    · exact e
    · cases h : AG x L with
      | none => exact e
      | some H =>
        have := AG_bd hL hx h
        exact ⟨this.1, by dsimp only; omega⟩
  · exact e
theorem gJe_bd : ∀ {b a : List Int}, u64s a → u64s b → u64s (gJe a b).2 ∧ (gJe a b).2.length ≤ 60
  | [], a, ha, _ => by
    unfold gJe
    split
    · exact ⟨u_nil, by simp⟩
    · exact ⟨ha, by dsimp only; omega⟩
  | x :: b, a, ha, hb => by
    unfold gJe
    split
    · exact gJe_bd (gAd_bd ha (hb x (by simp))).1 fun y hy => hb y (by simp [hy])
    · exact ⟨u_nil, by simp⟩
theorem gJo_bd {a b : List Int} (ha : u64s a) (hb : u64s b) : u64s (gJo a b).2 ∧ (gJo a b).2.length ≤ 60 := by
  unfold gJo
  have e : u64s [] ∧ ([] : List Int).length ≤ 60 := ⟨u_nil, by simp⟩
  split
  · split
    · exact gJe_bd ha hb
    · exact e
  · exact e
end XC
end Go.Proofs.YtelblhgagpkjmaaGreatDoor

/-
  Package grow, pure: what the laws ask of its answers.
-/
namespace Go.Proofs.YtelblhgagpkjmaaGreatDoor
set_option linter.unusedVariables false
set_option linter.unusedSimpArgs false
open Go.RowKit
set_option linter.unusedVariables false
set_option linter.unusedSimpArgs false
namespace XC
open L NC NK DC RC SC PC QC IC
open Z (cmpv)
/-- the sign -/
theorem gsign {L : List Int} (h : gCk L = 0) : gSn L = (cmpv (vs L) 0, 0) ∧ ((cmpv (vs L) 0 = 0) ↔ L = []) := by
  refine ⟨by unfold gSn; rw [if_pos h], ?_⟩
  rw [← vs_zero (gCk_0.1 h).2]
  unfold cmpv
  repeat (first | omega | split)
theorem cmpv_neg (a : Int) : cmpv (-a) 0 = -cmpv a 0 := by
  unfold cmpv
  repeat (first | omega | split)
end XC
end Go.Proofs.YtelblhgagpkjmaaGreatDoor

