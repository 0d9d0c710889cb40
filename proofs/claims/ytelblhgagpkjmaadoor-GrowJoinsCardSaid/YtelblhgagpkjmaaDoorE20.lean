/-
  Texts glued together for a claim: XG1 XG2 XG3 XG4 XG5 XG6 XG7.
-/
import Derived.Test.YtelblhgagpkjmaaDoorE11
import Derived.Test.YtelblhgagpkjmaaDoorE12
import Derived.Test.YtelblhgagpkjmaaDoorE18
import Derived.Test.YtelblhgagpkjmaaDoorE19
/-
  SHEWCHUK, pure: expansions over whole numbers: a number added is an expansion again, of the same value; its parts are no greater than there is room for.
-/
namespace Go.Proofs.YtelblhgagpkjmaaDoor
set_option linter.unusedVariables false
set_option linter.unusedSimpArgs false
set_option linter.unusedVariables false
set_option linter.unusedSimpArgs false
namespace XC
/-- all of a lies below all of b -/
def Lw (a b : Int) : Prop := ∃ t : Nat, (a.natAbs : Int) < 2 ^ t ∧ b % 2 ^ t = 0
/-- an expansion -/
def Xp : List Int → Prop
  | [] => True
  | a :: t => Fp a ∧ a ≠ 0 ∧ (∀ b, t.head? = some b → Lw a b) ∧ Xp t
def tl : List Int → Int
  | [] => 0
  | a :: t => a + tl t
theorem mod_le {b : Int} {s t : Nat} (h : s ≤ t) (hb : b % 2 ^ t = 0) : b % 2 ^ s = 0 := by
  obtain ⟨q, hq⟩ := Int.dvd_of_emod_eq_zero hb
  rw [hq, tsplit h, Int.mul_comm (2 ^ (t - s)), Int.mul_assoc]
  exact Int.mul_emod_right _ _
theorem mod_add {a b : Int} {t : Nat} (ha : a % 2 ^ t = 0) (hb : b % 2 ^ t = 0) : (a + b) % 2 ^ t = 0 := by
  rw [Int.add_emod, ha, hb, Int.add_zero, Int.zero_emod]
theorem mod_sub {a b : Int} {t : Nat} (ha : a % 2 ^ t = 0) (hb : b % 2 ^ t = 0) : (a - b) % 2 ^ t = 0 := by
  rw [Int.sub_emod, ha, hb, Int.sub_zero, Int.zero_emod]
theorem mod_ge {b : Int} {t : Nat} (hb : b % 2 ^ t = 0) (h0 : b ≠ 0) : (2 : Int) ^ t ≤ b.natAbs := by
  obtain ⟨q, hq⟩ := Int.dvd_of_emod_eq_zero hb
  have hp := tp t
  have hq0 : q ≠ 0 := fun h => h0 (by rw [hq, h, Int.mul_zero])
  rw [hq, Int.natAbs_mul, Int.natCast_mul, show (((2 : Int) ^ t).natAbs : Int) = 2 ^ t by omega]
  have := Int.mul_le_mul_of_nonneg_left (show (1 : Int) ≤ q.natAbs by omega) (Int.le_of_lt hp)
  omega
theorem tinj {s t : Nat} (h : (2 : Int) ^ s < 2 ^ t) : s < t := by
  rcases Nat.lt_or_ge s t with g | g
  · exact g
  · have := tle g; omega
/-- what lies above the first one lies above all that is below it -/
theorem xp_mod {l : List Int} (h : Xp l) : ∀ {t : Nat}, (∀ b, l.head? = some b → b % 2 ^ t = 0) → ∀ b ∈ l, b % 2 ^ t = 0 := by
  induction l with
  | nil => intro t _ b hb; cases hb
  | cons a r ih =>
    intro t ht b hb
    obtain ⟨h1, h2, h3, h4⟩ := h
    have ha := ht a rfl
    rcases List.mem_cons.1 hb with rfl | hb
    · exact ha
    · refine ih h4 (fun c hc => ?_) b hb
      obtain ⟨s, s1, s2⟩ := h3 c hc
      have := mod_ge ha h2
      exact mod_le (Nat.le_of_lt (tinj (by omega))) s2
/-- what a sum loses lies below what is told -/
theorem nr_low {n s : Int} (h : Nr n s) : ∃ j : Nat, ((n - s).natAbs : Int) < 2 ^ j ∧ s % 2 ^ j = 0 := by
  obtain ⟨j, p, p1, p2, e, -⟩ := fp_canon h.1
  have hp := tp j
  refine ⟨j, ?_, by rw [e]; exact Int.mul_emod_left _ _⟩
  have u1 := h.2 ((p + 1) * 2 ^ j) (fp_mk j (by omega) (by omega))
  have u2 := h.2 ((p - 1) * 2 ^ j) (fp_mk j (by omega) (by omega))
  rw [Int.add_mul, Int.one_mul, ← e] at u1
  rw [Int.sub_mul, Int.one_mul, ← e] at u2
  omega
/-- what is grown of q by l: h -/
inductive Gr : Int → List Int → List Int → Prop
  | last (q : Int) : Gr q [] (if q = 0 then [] else [q])
  | more (q e s : Int) (l h : List Int) : Nr (q + e) s → Gr s l h → Gr q (e :: l) (if q + e - s = 0 then h else (q + e - s) :: h)
/-- SHEWCHUK -/
theorem grow_p : ∀ {l : List Int} {q : Int} {h : List Int}, Gr q l h → Fp q → Xp l → ∀ {t : Nat}, q % 2 ^ t = 0 → (∀ b ∈ l, b % 2 ^ t = 0) →
    Xp h ∧ tl h = q + tl l ∧ h.length ≤ l.length + 1 ∧ ∀ b ∈ h, b % 2 ^ t = 0 := by
  intro l
  induction l with
  | nil =>
    intro q h hg hq _ t tq _
    cases hg
    by_cases q0 : q = 0
    · rw [if_pos q0, q0]; exact ⟨trivial, rfl, by simp, by simp⟩
    · rw [if_neg q0]
      refine ⟨?_, rfl, by simp, fun b hb => ?_⟩
      · show Fp q ∧ q ≠ 0 ∧ (∀ b, ([] : List Int).head? = some b → Lw q b) ∧ True
        exact ⟨hq, q0, fun b hb => by simp at hb, trivial⟩
      · rw [List.mem_singleton.1 hb]; exact tq
  | cons e r ih =>
    intro q h hg hq hl t tq tl'
    cases hg with
    | more _ _ s _ h hn hg =>
    obtain ⟨l1, l2, l3, l4⟩ := hl
    have te := tl' e (by simp)
    have tr : ∀ b ∈ r, b % 2 ^ t = 0 := fun b hb => tl' b (by simp [hb])
    obtain ⟨N, hN⟩ := Int.dvd_of_emod_eq_zero (mod_add tq te)
    have hs : s % 2 ^ t = 0 := by
      obtain ⟨k, hk⟩ := nr_unit hn (N := N) (m := t) (by rw [hN, Int.mul_comm])
      rw [hk]; exact Int.mul_emod_left _ _
    obtain ⟨i1, i2, i3, i4⟩ := ih hg hn.1 l4 hs tr
    by_cases c0 : q + e - s = 0
    · rw [if_pos c0]
      refine ⟨i1, ?_, by simp; omega, i4⟩
      rw [i2]; simp only [tl]; omega
    · rw [if_neg c0]
      have tc := mod_sub (mod_add tq te) hs
      refine ⟨⟨lost_fp hq l1 hn, c0, fun b hb => ?_, i1⟩, ?_, by simp; omega, fun b hb => ?_⟩
      · -- below all that comes
        obtain ⟨j, j1, j2⟩ := nr_low hn
        have hle := hn.2 q hq
        obtain ⟨T, T1, T2, T3⟩ : ∃ T : Nat, ((q + e - s).natAbs : Int) < 2 ^ T ∧ s % 2 ^ T = 0 ∧ ∀ b ∈ r, b % 2 ^ T = 0 := by
          cases r with
          | nil => exact ⟨j, j1, j2, fun b hb => by cases hb⟩
          | cons f r' =>
            obtain ⟨k, k1, k2⟩ := l3 f rfl
            have kr := xp_mod l4 (t := k) (fun b hb => by cases hb; exact k2)
            rcases Nat.le_total j k with g | g
            · exact ⟨j, j1, j2, fun b hb => mod_le g (kr b hb)⟩
            · exact ⟨k, by omega, mod_le g j2, kr⟩
        obtain ⟨-, -, -, m4⟩ := ih hg hn.1 l4 T2 T3
        exact ⟨T, T1, m4 b (List.mem_of_mem_head? hb)⟩
      · simp only [tl]; rw [i2]; omega
      · rcases List.mem_cons.1 hb with rfl | hb
        · exact tc
        · exact i4 b hb
/-- all but the last one, together, lie below it: the sign is the last one's -/
theorem xp_last : ∀ {l : List Int}, Xp l → ∀ {t : Nat}, (∀ b ∈ l, b % 2 ^ t = 0) → ∀ z : Int, (z.natAbs : Int) < 2 ^ t → l ≠ [] → (0 < l.getLast?.getD 0 ∧ 0 < z + tl l) ∨ (l.getLast?.getD 0 < 0 ∧ z + tl l < 0) := by
  intro l
  induction l with
  | nil => intro _ t _ z _ h; exact absurd rfl h
  | cons a r ih =>
    intro h t ht z hz _
    obtain ⟨h1, h2, h3, h4⟩ := h
    have ta := ht a (by simp)
    have ga := mod_ge ta h2
    cases r with
    | nil =>
      simp only [tl, List.getLast?_singleton, Option.getD_some]
      omega
    | cons f r' =>
      obtain ⟨k, k1, k2⟩ := h3 f rfl
      have kr := xp_mod h4 (t := k) (fun b hb => by cases hb; exact k2)
      have hk : (2 : Int) ^ t + a.natAbs ≤ 2 ^ k := by
        have hlt := tinj (show (2 : Int) ^ t < 2 ^ k by omega)
        obtain ⟨A, hA⟩ := Int.dvd_of_emod_eq_zero ta
        have e := tsplit (Nat.le_of_lt hlt)
        have hp := tp t
        have eA : (a.natAbs : Int) = A.natAbs * 2 ^ t := by
          rw [hA, Int.natAbs_mul, Int.natCast_mul, show (((2 : Int) ^ t).natAbs : Int) = 2 ^ t by omega, Int.mul_comm]
        rw [eA, e] at k1 ⊢
        have := Int.lt_of_mul_lt_mul_right k1 (Int.le_of_lt hp)
        have := Int.mul_le_mul_of_nonneg_right (show (A.natAbs : Int) + 1 ≤ 2 ^ (k - t) by omega) (Int.le_of_lt hp)
        rw [Int.add_mul, Int.one_mul] at this
        omega
      have := ih h4 kr (z + a) (by omega) (by simp)
      rw [show z + tl (a :: f :: r') = z + a + tl (f :: r') by simp only [tl]; omega]
      simpa using this
end XC
end Go.Proofs.YtelblhgagpkjmaaDoor

/-
  Package grow, pure: TwoSum again for greater numbers; a number grown by an expansion, by numbers.
-/
namespace Go.Proofs.YtelblhgagpkjmaaDoor
set_option linter.unusedVariables false
set_option linter.unusedSimpArgs false
open Go.RowKit
set_option linter.unusedVariables false
set_option linter.unusedSimpArgs false
namespace XC
open L NC NK DC RC SC PC
/-- below 2^916, over the least unit -/
@[irreducible] def LLB : Int := 2 ^ 1990
theorem limB {M : Int} (hM : M = 9218868437227405311) : 400 * (LLB * e0) ≤ U M := by
  obtain ⟨k, hk⟩ : ∃ k : Nat, k = 2045 := ⟨_, rfl⟩
  have hU := (U_of (k := k) (q := 9007199254740991) (by omega) (by omega) (by omega))
  rw [show (k : Int) * 4503599627370496 + 9007199254740991 = M by omega] at hU
  rw [hU.1, e0_pow]
  obtain ⟨a, ha⟩ : ∃ a : Nat, a = 1990 := ⟨_, rfl⟩
  have e : LLB = 2 ^ a := by unfold LLB; rw [ha]
  rw [e]
  have h1 : (2 : Int) ^ a ≤ 2 ^ k := tle (by omega)
  have h2 := Int.mul_le_mul_of_nonneg_right h1 (Int.le_of_lt e0_pos)
  have h3 := Int.mul_nonneg (Int.le_of_lt (tp a)) (Int.le_of_lt e0_pos)
  generalize (2 : Int) ^ a * e0 = p at *
  generalize (2 : Int) ^ k * e0 = q at *
  omega
theorem LL9_B : 65536 * LL9 = LLB ∧ 0 < LL9 := by
  unfold LL9 LLB
  obtain ⟨a, ha⟩ : ∃ a : Nat, a = 1974 := ⟨_, rfl⟩
  have := tsplit (a := a) (b := a + 16) (by omega)
  rw [show a + 16 - a = 16 by omega, show (2 : Int) ^ 16 = 65536 by decide] at this
  rw [show (1990 : Nat) = a + 16 by omega, show (1974 : Nat) = a by omega]
  exact ⟨this.symm, tp a⟩
/-- KNUTH again -/
theorem two_b {x y X Y : Int} (fx : fi x) (fy : fi y) (vx : val x = X * e0) (vy : val y = Y * e0) (bX : X ≤ LLB ∧ -LLB ≤ X) (bY : Y ≤ LLB ∧ -LLB ≤ Y) :
    ∃ s r N : Int, T2 x y = (s, r, 0) ∧ fi s ∧ fi r ∧ val s = N * e0 ∧ val r = (X + Y - N) * e0 ∧ Nr (X + Y) N ∧ Fp X ∧ Fp Y := by
  obtain ⟨M, hM⟩ : ∃ M : Int, M = 9218868437227405311 := ⟨_, rfl⟩
  have hL := limB hM
  have uq := fun {a b : Int} (h : a * e0 = b * e0) => Int.eq_of_mul_eq_mul_right (Int.ne_of_gt e0_pos) h
  have pX : Fp X := by obtain ⟨X', v, p⟩ := val_fp fx; rw [vx] at v; rw [uq v]; exact p
  have pY : Fp Y := by obtain ⟨X', v, p⟩ := val_fp fy; rw [vy] at v; rw [uq v]; exact p
  generalize LLB = L at *
  obtain ⟨fs, N, vN, nN⟩ := nr_add hM hL fx fy vx vy (by omega) (by omega)
  have bN := nr_bd nN (B := 2 * L) (by omega) (by omega)
  obtain ⟨fa, A', va, na⟩ := nr_sub hM hL fs fy vN vy (by omega) (by omega)
  have ba := nr_bd na (B := 5 * L) (by omega) (by omega)
  obtain ⟨fb, B', vb, nb⟩ := nr_sub hM hL fs fa vN va (by omega) (by omega)
  have bb := nr_bd nb (B := 14 * L) (by omega) (by omega)
  obtain ⟨fc, C', vc, nc⟩ := nr_sub hM hL fx fa vx va (by omega) (by omega)
  have bc := nr_bd nc (B := 11 * L) (by omega) (by omega)
  obtain ⟨fd, D', vd, nd⟩ := nr_sub hM hL fy fb vy vb (by omega) (by omega)
  have bd := nr_bd nd (B := 29 * L) (by omega) (by omega)
  obtain ⟨fr, R', vr, nr⟩ := nr_add hM hL fc fd vc vd (by omega) (by omega)
  have e := two_sum pX pY nN na nb nc nd nr
  refine ⟨_, _, N, ?_, fs, fr, vN, by rw [vr, e], nN, pX, pY⟩
  unfold T2
  rw [if_neg (by rintro (q | q); exact fx.2.2 q; exact fy.2.2 q), if_neg fs.2.2]
/-- what Add tells: none is an error of TwoSum's -/
noncomputable def AG : Int → List Int → Option (List Int)
  | q, [] => some (if F.cls q = 1 then [] else [q])
  | q, e :: l => if (T2 q e).2.2 ≠ 0 then none else (AG (T2 q e).1 l).map fun h => if F.cls (T2 q e).2.1 = 1 then h else (T2 q e).2.1 :: h
/-- numbers and their values over the least unit -/
def Vl : List Int → List Int → Prop
  | [], [] => True
  | x :: L, n :: xs => fi x ∧ val x = n * e0 ∧ Vl L xs
  | _, _ => False
theorem vl_len : ∀ {L xs : List Int}, Vl L xs → L.length = xs.length
  | [], [], _ => rfl
  | x :: L, n :: xs, h => by simp [vl_len h.2.2]
  | [], _ :: _, h => h.elim
  | _ :: _, [], h => h.elim
theorem vl_ex : ∀ {L : List Int}, (∀ x ∈ L, fi x) → ∃ xs, Vl L xs
  | [], _ => ⟨[], trivial⟩
  | x :: L, h => by
    obtain ⟨n, e, -⟩ := val_fp (h x (by simp))
    obtain ⟨xs, hx⟩ := vl_ex (L := L) fun y hy => h y (by simp [hy])
    exact ⟨n :: xs, h x (by simp), e, hx⟩
/-- all sizes together -/
def sa' : List Int → Int
  | [] => 0
  | n :: t => n.natAbs + sa' t
theorem sa_nn : ∀ l : List Int, 0 ≤ sa' l
  | [] => by simp [sa']
  | n :: t => by have := sa_nn t; simp only [sa']; omega
theorem cls1_iff {x X : Int} (h : fi x) (v : val x = X * e0) : F.cls x = 1 ↔ X = 0 := by
  rw [← val0 h, v]
  constructor
  · intro q
    rcases Int.mul_eq_zero.1 q with k | k
    · exact k
    · have := e0_pos; omega
  · intro q; rw [q, Int.zero_mul]
theorem grow_f : ∀ {L xs : List Int} {x X : Int}, Vl L xs → fi x → val x = X * e0 → X.natAbs + 2 * sa' xs ≤ LLB → ∃ H hs, AG x L = some H ∧ Vl H hs ∧ Gr X xs hs
  | [], [], x, X, _, fx, vx, _ => by
    refine ⟨if F.cls x = 1 then [] else [x], if X = 0 then [] else [X], rfl, ?_, .last X⟩
    have c := cls1_iff fx vx
    by_cases h : X = 0
    · rw [if_pos h, if_pos (c.2 h)]; trivial
    · rw [if_neg h, if_neg fun k => h (c.1 k)]; exact ⟨fx, vx, trivial⟩
  | e :: L, n :: xs, x, X, h, fx, vx, hb => by
    have nn := sa_nn xs
    simp only [sa'] at hb
    obtain ⟨s, r, N, et, fs, fr, vs', vr, nr, pX, -⟩ := two_b fx h.1 vx h.2.1 (by omega) (by omega)
    have hN := nr.2 X pX
    obtain ⟨H, hs, e1, e2, e3⟩ := grow_f (L := L) (xs := xs) (x := s) (X := N) h.2.2 fs vs' (by omega)
    have c := cls1_iff fr vr
    have ea : AG x (e :: L) = some (if F.cls r = 1 then H else r :: H) := by
      unfold AG
      rw [et]
      simp [e1]
    refine ⟨_, if X + n - N = 0 then hs else (X + n - N) :: hs, ea, ?_, .more X n N xs hs nr e3⟩
    by_cases h0 : X + n - N = 0
    · rw [if_pos h0, if_pos (c.2 h0)]; exact e2
    · rw [if_neg h0, if_neg fun k => h0 (c.1 k)]; exact ⟨fr, vr, e2⟩
  | [], _ :: _, _, _, h, _, _, _ => h.elim
  | _ :: _, [], _, _, h, _, _, _ => h.elim
end XC
end Go.Proofs.YtelblhgagpkjmaaDoor

/-
  Package grow, pure: an expansion by its numbers (isX) and by whole numbers (Xp); a number added (SHEWCHUK).
-/
namespace Go.Proofs.YtelblhgagpkjmaaDoor
set_option linter.unusedVariables false
set_option linter.unusedSimpArgs false
open Go.RowKit
set_option linter.unusedVariables false
set_option linter.unusedSimpArgs false
namespace XC
open L NC NK DC RC SC PC
/-- the weight of the lowest bit -/
def lowx (x : Int) : Int := (OfD x).d.x
/-- an expansion, by its numbers -/
def isX : List Int → Prop
  | [] => True
  | x :: t => fi x ∧ (OfD x).d.m ≠ 0 ∧ (∀ y, t.head? = some y → topx x < lowx y) ∧ isX t
theorem m_iff {x X : Int} (v : val x = X * e0) : (OfD x).d.m = 0 ↔ X = 0 := by
  rw [S_m]
  have : S (OfD x).d = X * e0 := v
  rw [this]
  constructor
  · intro q
    rcases Int.mul_eq_zero.1 q with k | k
    · exact k
    · have := e0_pos; omega
  · intro q; rw [q, Int.zero_mul]
/-- one lies below another, both ways -/
theorem lw_iff {x y X Y : Int} (fx : fi x) (fy : fi y) (vx : val x = X * e0) (vy : val y = Y * e0) (hx : (OfD x).d.m ≠ 0) (hy : (OfD y).d.m ≠ 0) : topx x < lowx y ↔ Lw X Y := by
  obtain ⟨t1, t2, t3, t4⟩ := top_p fx hx
  have gy := of_fit fy
  have hl := gy.2.x
  have h0 := e0_pos
  have ux : sz x = X.natAbs * e0 := by
    have e : val x = sgm (F.sgn x) (sz x) := val_eq fx
    have s0 : 0 ≤ sz x := U_pos (by have := fx.1; omega)
    rw [vx] at e
    rcases Int.lt_or_le X 0 with q | q
    · rw [show (X.natAbs : Int) = -X by omega, Int.neg_mul]
      have := Int.mul_neg_of_neg_of_pos q h0
      unfold sgm at e; split at e <;> omega
    · rw [show (X.natAbs : Int) = X by omega]
      have := Int.mul_nonneg q (Int.le_of_lt h0)
      unfold sgm at e; split at e <;> omega
  obtain ⟨k, hk⟩ : ∃ k : Nat, (k : Int) - 1074 = lowx y := ⟨(lowx y + 1074).toNat, by unfold lowx; omega⟩
  have eY : Y = (OfD y).d.m * 2 ^ k := by
    have e : val y = (OfD y).d.m * sc 1 (lowx y) := sc_mul1 _ _
    rw [vy, ← hk, e0_pow, ← Int.mul_assoc] at e
    exact Int.eq_of_mul_eq_mul_right (Int.ne_of_gt h0) e
  have hodd : (OfD y).d.m % 2 = 1 := by
    rcases gy.2.ok.2.1 with q | q
    · exact absurd q.1 hy
    · exact q
  constructor
  · intro h
    refine ⟨k, ?_, by rw [eY]; exact Int.mul_emod_left _ _⟩
    have h1 : sz x < sc 1 ((k : Int) - 1074) := by
      have := sc1_le (x := topx x + 1) (y := (k : Int) - 1074) (by omega) (by omega)
      omega
    rw [ux, e0_pow] at h1
    exact Int.lt_of_mul_lt_mul_right h1 (Int.le_of_lt h0)
  · rintro ⟨t, h1, h2⟩
    have htk : t ≤ k := by
      rcases Nat.lt_or_ge k t with g | g
      · exfalso
        obtain ⟨q, hq⟩ := Int.dvd_of_emod_eq_zero h2
        rw [eY, tsplit (show k ≤ t by omega), Int.mul_comm (2 ^ (t - k)), Int.mul_assoc, Int.mul_comm] at hq
        have hq := Int.eq_of_mul_eq_mul_left (Int.ne_of_gt (tp k)) hq
        obtain ⟨j, hj⟩ : ∃ j, t - k = j + 1 := ⟨t - k - 1, by omega⟩
        rw [hj, Int.pow_succ, Int.mul_comm (2 ^ j) 2, Int.mul_assoc] at hq
        generalize 2 ^ j * q = z at hq
        omega
      · exact g
    have h3 : sz x < sc 1 ((k : Int) - 1074) := by
      rw [ux, e0_pow]
      have := tle htk
      exact Int.mul_lt_mul_of_pos_right (by omega) h0
    have := sc1_lt (Int.lt_of_le_of_lt t1 h3) (by omega)
    omega
theorem vl_head : ∀ {L xs : List Int} {n : Int}, Vl L xs → xs.head? = some n → ∃ y, L.head? = some y ∧ fi y ∧ val y = n * e0
  | x :: L, m :: xs, n, h, e => by cases e; exact ⟨x, rfl, h.1, h.2.1⟩
  | [], [], _, _, e => by cases e
  | [], _ :: _, _, h, _ => h.elim
  | _ :: _, [], _, h, _ => h.elim
theorem isX_iff : ∀ {L xs : List Int}, Vl L xs → (isX L ↔ Xp xs)
  | [], [], _ => Iff.rfl
  | x :: L, n :: xs, h => by
    have ih := isX_iff h.2.2
    have pn : Fp n := by
      obtain ⟨n', v, p⟩ := val_fp h.1
      rw [h.2.1] at v
      rw [Int.eq_of_mul_eq_mul_right (Int.ne_of_gt e0_pos) v]; exact p
    have mi := m_iff h.2.1
    constructor
    · rintro ⟨a1, a2, a3, a4⟩
      refine ⟨pn, fun q => a2 (mi.2 q), fun b hb => ?_, ih.1 a4⟩
      obtain ⟨y, k1, k2, k3⟩ := vl_head h.2.2 hb
      have k4 : (OfD y).d.m ≠ 0 := by
        cases L with
        | nil => cases k1
        | cons z L' => cases k1; exact a4.2.1
      exact (lw_iff h.1 k2 h.2.1 k3 a2 k4).1 (a3 y k1)
    · rintro ⟨a1, a2, a3, a4⟩
      have a2' : (OfD x).d.m ≠ 0 := fun q => a2 (mi.1 q)
      have b4 := ih.2 a4
      refine ⟨h.1, a2', fun y hy => ?_, b4⟩
      cases L with
      | nil => cases hy
      | cons z L' =>
        cases hy
        cases xs with
        | nil => exact h.2.2.elim
        | cons m xs' => exact (lw_iff h.1 h.2.2.1 h.2.1 h.2.2.2.1 a2' b4.2.1).2 (a3 m rfl)
  | [], _ :: _, h => h.elim
  | _ :: _, [], h => h.elim
theorem vl_fi : ∀ {L xs : List Int}, Vl L xs → ∀ x ∈ L, fi x
  | x :: L, n :: xs, h, y, hy => by
    rcases List.mem_cons.1 hy with rfl | hy
    · exact h.1
    · exact vl_fi h.2.2 y hy
  | [], [], _, y, hy => by cases hy
  | [], _ :: _, h, _, _ => h.elim
  | _ :: _, [], h, _, _ => h.elim
theorem vl_vs : ∀ {L xs : List Int}, Vl L xs → vs L = tl xs * e0
  | x :: L, n :: xs, h => by simp only [vs, tl]; rw [h.2.1, vl_vs h.2.2, Int.add_mul]
  | [], [], _ => by simp [vs, tl]
  | [], _ :: _, h => h.elim
  | _ :: _, [], h => h.elim
/-- below 2^900: no more than so much together -/
theorem sa_lim : ∀ {L xs : List Int}, Vl L xs → (∀ x ∈ L, F.exq x < 1923) → sa' xs ≤ xs.length * LL9
  | x :: L, n :: xs, h, hl => by
    have b := lim9_x h.1 (hl x (by simp)) h.2.1
    have ih := sa_lim h.2.2 fun y hy => hl y (by simp [hy])
    simp only [sa', List.length_cons]
    rw [show ((xs.length + 1 : Nat) : Int) = xs.length + 1 by omega, Int.add_mul, Int.one_mul]
    omega
  | [], [], _, _ => by simp [sa']
  | [], _ :: _, h, _ => h.elim
  | _ :: _, [], h, _ => h.elim
/-- SHEWCHUK: a number added to an expansion -/
theorem add_p {L : List Int} {x : Int} (hL : isX L) (hn : L.length ≤ 60) (fx : fi x) (bx : F.exq x < 1923) (bL : ∀ y ∈ L, F.exq y < 1923) :
    ∃ H, AG x L = some H ∧ isX H ∧ vs H = val x + vs L ∧ H.length ≤ L.length + 1 ∧ ∀ y ∈ H, fi y := by
  have hf : ∀ y ∈ L, fi y := by
    intro y hy
    clear bL hn
    induction L with
    | nil => cases hy
    | cons z t ih =>
      rcases List.mem_cons.1 hy with rfl | hy
      · exact hL.1
      · exact ih hL.2.2.2 hy
  obtain ⟨xs, hv⟩ := vl_ex hf
  obtain ⟨X, vx, pX⟩ := val_fp fx
  have hlen := vl_len hv
  have b1 := lim9_x fx bx vx
  have b2 := sa_lim hv bL
  obtain ⟨c1, c2⟩ := LL9_B
  have hX := (isX_iff hv).1 hL
  have b3 := Int.mul_le_mul_of_nonneg_right (show (xs.length : Int) ≤ 60 by omega) (Int.le_of_lt c2)
  obtain ⟨H, hs, e1, e2, e3⟩ := grow_f hv fx vx (by omega)
  obtain ⟨g1, g2, g3, -⟩ := grow_p e3 pX hX (t := 0) (by simp [Int.emod_one]) (fun b _ => by simp [Int.emod_one])
  refine ⟨H, e1, (isX_iff e2).2 g1, ?_, by rw [vl_len e2, hlen]; exact g3, vl_fi e2⟩
  rw [vl_vs e2, g2, vl_vs hv, vx, Int.add_mul]
end XC
end Go.Proofs.YtelblhgagpkjmaaDoor

/-
  Package grow, pure: parts stay where there is room: many numbers added, one by one.
-/
namespace Go.Proofs.YtelblhgagpkjmaaDoor
set_option linter.unusedVariables false
set_option linter.unusedSimpArgs false
open Go.RowKit
set_option linter.unusedVariables false
set_option linter.unusedSimpArgs false
namespace XC
open L NC NK DC RC SC PC
/-- a multiple that is less than one more -/
theorem mult_le {s : Int} {t K : Nat} (h : s % 2 ^ t = 0) (hK : t ≤ K) (hs : (s.natAbs : Int) < 2 ^ K + 2 ^ t) : (s.natAbs : Int) ≤ 2 ^ K := by
  obtain ⟨q, hq⟩ := Int.dvd_of_emod_eq_zero h
  have hp := tp t
  have e : (s.natAbs : Int) = q.natAbs * 2 ^ t := by
    rw [hq, Int.natAbs_mul, Int.natCast_mul, show (((2 : Int) ^ t).natAbs : Int) = 2 ^ t by omega, Int.mul_comm]
  rw [e, tsplit hK] at hs ⊢
  have h2 : (q.natAbs : Int) * 2 ^ t < (2 ^ (K - t) + 1) * 2 ^ t := by rw [Int.add_mul, Int.one_mul]; exact hs
  have h3 := Int.lt_of_mul_lt_mul_right h2 (Int.le_of_lt hp)
  exact Int.mul_le_mul_of_nonneg_right (by omega) (Int.le_of_lt hp)
/-- less than 2^t and a multiple of 2^t below 2^T, together -/
theorem pend_lt {z r : Int} {t T : Nat} (hz : (z.natAbs : Int) < 2 ^ t) (hr : r % 2 ^ t = 0) (h0 : r ≠ 0) (hT : (r.natAbs : Int) < 2 ^ T) : ((z + r).natAbs : Int) < 2 ^ T := by
  have h1 := mod_ge hr h0
  have hlt := tinj (show (2 : Int) ^ t < 2 ^ T by omega)
  obtain ⟨A, hA⟩ := Int.dvd_of_emod_eq_zero hr
  have e := tsplit (Nat.le_of_lt hlt)
  have hp := tp t
  have eA : (r.natAbs : Int) = A.natAbs * 2 ^ t := by
    rw [hA, Int.natAbs_mul, Int.natCast_mul, show (((2 : Int) ^ t).natAbs : Int) = 2 ^ t by omega, Int.mul_comm]
  rw [eA, e] at hT
  have := Int.lt_of_mul_lt_mul_right hT (Int.le_of_lt hp)
  have := Int.mul_le_mul_of_nonneg_right (show (A.natAbs : Int) + 1 ≤ 2 ^ (T - t) by omega) (Int.le_of_lt hp)
  rw [Int.add_mul, Int.one_mul, ← e, ← eA] at this
  omega
theorem grow_le : ∀ {l : List Int} {q : Int} {h : List Int}, Gr q l h → Fp q → Xp l → ∀ {t K : Nat} {z : Int}, q % 2 ^ t = 0 → (∀ b ∈ l, b % 2 ^ t = 0) → (z.natAbs : Int) < 2 ^ t → t ≤ K →
    (∀ e ∈ l, (e.natAbs : Int) ≤ 2 ^ K) → ((z + q + tl l).natAbs : Int) ≤ 2 ^ K → ∀ b ∈ h, (b.natAbs : Int) ≤ 2 ^ K := by
  intro l
  induction l with
  | nil =>
    intro q h hg hq _ t K z tq _ hz htK _ hS b hb
    cases hg
    by_cases q0 : q = 0
    · rw [if_pos q0] at hb; cases hb
    · rw [if_neg q0] at hb
      rw [List.mem_singleton.1 hb]
      simp only [tl] at hS
      exact mult_le tq htK (by omega)
  | cons e r ih =>
    intro q h hg hq hl t K z tq tl' hz htK hb2 hS b hb
    cases hg with
    | more _ _ s _ h hn hg =>
    obtain ⟨l1, l2, l3, l4⟩ := hl
    have te := tl' e (by simp)
    have tr : ∀ b ∈ r, b % 2 ^ t = 0 := fun b hb => tl' b (by simp [hb])
    have be := hb2 e (by simp)
    have br : ∀ b ∈ r, (b.natAbs : Int) ≤ 2 ^ K := fun b hb => hb2 b (by simp [hb])
    obtain ⟨N, hN⟩ := Int.dvd_of_emod_eq_zero (mod_add tq te)
    have hs : s % 2 ^ t = 0 := by
      obtain ⟨k, hk⟩ := nr_unit hn (N := N) (m := t) (by rw [hN, Int.mul_comm])
      rw [hk]; exact Int.mul_emod_left _ _
    simp only [tl] at hS
    by_cases c0 : q + e - s = 0
    · rw [if_pos c0] at hb
      exact ih hg hn.1 l4 hs tr hz htK br (by rw [show z + s + tl r = z + q + (e + tl r) by omega]; exact hS) b hb
    · rw [if_neg c0] at hb
      have tc := mod_sub (mod_add tq te) hs
      have hle := hn.2 q hq
      rcases List.mem_cons.1 hb with rfl | hb
      · omega
      · obtain ⟨j, j1, j2⟩ := nr_low hn
        obtain ⟨T, T1, T2, T3, T4⟩ : ∃ T : Nat, ((q + e - s).natAbs : Int) < 2 ^ T ∧ s % 2 ^ T = 0 ∧ (∀ b ∈ r, b % 2 ^ T = 0) ∧ T ≤ K := by
          cases r with
          | nil =>
            by_cases hlt : ((q + e - s).natAbs : Int) < 2 ^ K
            · rcases Nat.le_total j K with g | g
              · exact ⟨j, j1, j2, fun b hb => (by cases hb), g⟩
              · exact ⟨K, hlt, mod_le g j2, fun b hb => (by cases hb), Nat.le_refl _⟩
            · exfalso
              have hr := nr_rel hn
              simp only [tl] at hS
              have := tle htK
              have hp := tp K
              have hc : ((s - (q + e)).natAbs : Int) = (q + e - s).natAbs := by omega
              rw [hc] at hr
              omega
          | cons f r' =>
            obtain ⟨k, k1, k2⟩ := l3 f rfl
            have kr := xp_mod l4 (t := k) (fun b hb => by cases hb; exact k2)
            have kK : k ≤ K := by
              have h1 := mod_ge k2 l4.2.1
              have h2 := br f (by simp)
              rcases Nat.lt_or_ge K k with g | g
              · have := tle (show K + 1 ≤ k by omega)
                rw [Int.pow_succ] at this
                have := tp K
                omega
              · exact g
            rcases Nat.le_total j k with g | g
            · exact ⟨j, j1, j2, fun b hb => mod_le g (kr b hb), by omega⟩
            · exact ⟨k, by omega, mod_le g j2, kr, kK⟩
        have hz2 := pend_lt hz tc c0 T1
        exact ih hg hn.1 l4 T2 T3 hz2 T4 br (by rw [show z + (q + e - s) + s + tl r = z + q + (e + tl r) by omega]; exact hS) b hb
/-- no part is greater than so much, over the least unit -/
def Bd (K : Nat) (L : List Int) : Prop := ∀ xs, Vl L xs → ∀ n ∈ xs, (n.natAbs : Int) ≤ 2 ^ K
theorem vl_uniq : ∀ {L xs ys : List Int}, Vl L xs → Vl L ys → xs = ys
  | [], [], [], _, _ => rfl
  | x :: L, n :: xs, m :: ys, h, k => by
    have : n = m := Int.eq_of_mul_eq_mul_right (Int.ne_of_gt e0_pos) (h.2.1.symm.trans k.2.1)
    rw [this, vl_uniq h.2.2 k.2.2]
  | [], _ :: _, _, h, _ => h.elim
  | [], [], _ :: _, _, k => k.elim
  | _ :: _, [], _, h, _ => h.elim
  | _ :: _, _ :: _, [], _, k => k.elim
theorem sa_bd : ∀ {xs : List Int} {B : Int}, (∀ n ∈ xs, (n.natAbs : Int) ≤ B) → sa' xs ≤ xs.length * B
  | [], _, _ => by simp [sa']
  | n :: xs, B, h => by
    have a := h n (by simp)
    have ih := sa_bd (xs := xs) (B := B) fun m hm => h m (by simp [hm])
    simp only [sa', List.length_cons]
    rw [show ((xs.length + 1 : Nat) : Int) = xs.length + 1 by omega, Int.add_mul, Int.one_mul]
    omega
theorem isX_fi : ∀ {L : List Int}, isX L → ∀ y ∈ L, fi y
  | [], _, y, hy => by cases hy
  | x :: L, h, y, hy => by
    rcases List.mem_cons.1 hy with rfl | hy
    · exact h.1
    · exact isX_fi h.2.2.2 y hy
/-- a number added to an expansion whose parts have room -/
theorem add_b {L : List Int} {x X S : Int} {K : Nat} (hK : K = 1981) (hL : isX L) (hn : L.length ≤ 60) (fx : fi x) (vx : val x = X * e0) (bX : (X.natAbs : Int) ≤ 2 ^ K) (bL : Bd K L) (vS : val x + vs L = S * e0) (bS : (S.natAbs : Int) ≤ 2 ^ K) :
    ∃ H, AG x L = some H ∧ isX H ∧ vs H = val x + vs L ∧ H.length ≤ L.length + 1 ∧ Bd K H := by
  obtain ⟨xs, hv⟩ := vl_ex (isX_fi hL)
  have hlen := vl_len hv
  have hX := (isX_iff hv).1 hL
  have b1 := sa_bd (bL xs hv)
  have pX : Fp X := by
    obtain ⟨X', v, p⟩ := val_fp fx
    rw [vx] at v
    rw [Int.eq_of_mul_eq_mul_right (Int.ne_of_gt e0_pos) v]; exact p
  have hp := tp K
  have b3 := Int.mul_le_mul_of_nonneg_right (show (xs.length : Int) ≤ 60 by omega) (Int.le_of_lt hp)
  have hB : 256 * 2 ^ K ≤ LLB := by
    unfold LLB
    have := tsplit (a := K) (b := 1990) (by omega)
    rw [show 1990 - K = 9 by omega, show (2 : Int) ^ 9 = 512 by decide] at this
    omega
  obtain ⟨H, hs, e1, e2, e3⟩ := grow_f hv fx vx (by omega)
  obtain ⟨g1, g2, g3, -⟩ := grow_p e3 pX hX (t := 0) (by simp [Int.emod_one]) (fun b _ => by simp [Int.emod_one])
  have eS : X + tl xs = S := by
    rw [vl_vs hv, vx, ← Int.add_mul] at vS
    exact Int.eq_of_mul_eq_mul_right (Int.ne_of_gt e0_pos) vS
  have gl := grow_le e3 pX hX (t := 0) (K := K) (z := 0) (by simp [Int.emod_one]) (fun b _ => by simp [Int.emod_one]) (by simp) (by omega) (bL xs hv) (by rw [Int.zero_add, eS]; exact bS)
  refine ⟨H, e1, (isX_iff e2).2 g1, ?_, by rw [vl_len e2, hlen]; exact g3, fun ys hy => ?_⟩
  · rw [vl_vs e2, g2, vl_vs hv, vx, Int.add_mul]
  · rw [← vl_uniq e2 hy]; exact gl
end XC
end Go.Proofs.YtelblhgagpkjmaaDoor

/-
  Package grow, pure: the sign; what Check asks, by sizes; many numbers added; the side of three points.
-/
namespace Go.Proofs.YtelblhgagpkjmaaDoor
set_option linter.unusedVariables false
set_option linter.unusedSimpArgs false
open Go.RowKit
set_option linter.unusedVariables false
set_option linter.unusedSimpArgs false
namespace XC
open L NC NK DC RC SC PC
theorem vl_last : ∀ {L xs : List Int}, Vl L xs → L ≠ [] → val (L.getLast?.getD 0) = xs.getLast?.getD 0 * e0 ∧ fi (L.getLast?.getD 0)
  | [x], [n], h, _ => ⟨h.2.1, h.1⟩
  | x :: y :: L, n :: m :: xs, h, _ => by
    have := vl_last (L := y :: L) (xs := m :: xs) h.2.2 (by simp)
    simpa using this
  | [], _, _, h => absurd rfl h
  | [_], [], h, _ => h.elim
  | [_], _ :: _ :: _, h, _ => h.2.2.elim
  | _ :: _ :: _, [], h, _ => h.elim
  | _ :: _ :: _, [_], h, _ => h.2.2.elim
/-- SHEWCHUK: the sign of all is that of the last one -/
theorem vs_sign {L : List Int} (hL : isX L) (h0 : L ≠ []) : (0 < val (L.getLast?.getD 0) ∧ 0 < vs L) ∨ (val (L.getLast?.getD 0) < 0 ∧ vs L < 0) := by
  obtain ⟨xs, hv⟩ := vl_ex (isX_fi hL)
  have hX := (isX_iff hv).1 hL
  have hn : xs ≠ [] := fun q => h0 (by have := vl_len hv; rw [q] at this; simpa using this)
  have hp := e0_pos
  have k := xp_last hX (t := 0) (fun b _ => by simp [Int.emod_one]) 0 (by simp) hn
  rw [(vl_last hv h0).1, vl_vs hv]
  rw [Int.zero_add] at k
  rcases k with ⟨a, b⟩ | ⟨a, b⟩
  · exact .inl ⟨Int.mul_pos a hp, Int.mul_pos b hp⟩
  · exact .inr ⟨Int.mul_neg_of_neg_of_pos a hp, Int.mul_neg_of_neg_of_pos b hp⟩
theorem vs_zero {L : List Int} (hL : isX L) : vs L = 0 ↔ L = [] := by
  constructor
  · intro h
    rcases Classical.em (L = []) with q | q
    · exact q
    · rcases vs_sign hL q with ⟨-, k⟩ | ⟨-, k⟩ <;> omega
  · rintro rfl; rfl
/-- what Join tells, before the last length is asked; none: an error -/
noncomputable def JG : List Int → List Int → Option (List Int)
  | a, [] => some a
  | a, x :: b => if 60 < a.length then none else match AG x a with
    | none => none
    | some c => JG c b
theorem join_b : ∀ {b a c : List Int} {S : Int} {K : Nat}, K = 1981 → isX a → Bd K a → vs a = S * e0 → S.natAbs + b.length * LL9 ≤ 2 ^ K → (∀ y ∈ b, fi y ∧ F.exq y < 1923) → JG a b = some c → isX c ∧ vs c = vs a + vs b
  | [], a, c, S, K, _, hX, _, _, _, _, hj => by
    unfold JG at hj
    cases hj
    exact ⟨hX, by simp [vs]⟩
  | x :: b, a, c, S, K, hK, hX, hB, hS, hl, hf, hj => by
    obtain ⟨fx, bx⟩ := hf x (by simp)
    obtain ⟨X, vx, -⟩ := val_fp fx
    have b1 := lim9_x fx bx vx
    have c2 := LL9_B.2
    rw [List.length_cons, show ((b.length + 1 : Nat) : Int) = b.length + 1 by omega, Int.add_mul, Int.one_mul] at hl
    have c3 := Int.mul_nonneg (show (0 : Int) ≤ b.length by omega) (Int.le_of_lt c2)
    unfold JG at hj
    by_cases hn : 60 < a.length
    · rw [if_pos hn] at hj; cases hj
    · rw [if_neg hn] at hj
      obtain ⟨H, e1, e2, e3, -, e5⟩ := add_b (S := X + S) hK hX (by omega) fx vx (by omega) hB (by rw [vx, hS, Int.add_mul]) (by omega)
      rw [e1] at hj
      obtain ⟨k1, k2⟩ := join_b (S := X + S) hK e2 e5 (by rw [e3, vx, hS, Int.add_mul]) (by omega) (fun y hy => hf y (by simp [hy])) hj
      refine ⟨k1, ?_⟩
      rw [k2, e3]
      simp only [vs]
      omega
/-- an expansion of numbers below 2^900 has room -/
theorem bd_9 {L : List Int} {K : Nat} (hK : K = 1981) (hl : ∀ y ∈ L, F.exq y < 1923) : Bd K L := by
  have hB : 128 * LL9 = 2 ^ K := by
    unfold LL9
    have := tsplit (a := 1974) (b := K) (by omega)
    rw [show K - 1974 = 7 by omega, show (2 : Int) ^ 7 = 128 by decide] at this
    exact this.symm
  have c2 := LL9_B.2
  have key : ∀ {M xs : List Int}, (∀ y ∈ M, F.exq y < 1923) → Vl M xs → ∀ n ∈ xs, (n.natAbs : Int) ≤ 2 ^ K := by
    intro M
    induction M with
    | nil => intro xs _ h n hn; cases xs with
      | nil => cases hn
      | cons _ _ => exact h.elim
    | cons x M ih =>
      intro xs hM h n hn
      cases xs with
      | nil => exact h.elim
      | cons m xs =>
        rcases List.mem_cons.1 hn with rfl | hn
        · have := lim9_x h.1 (hM x (by simp)) h.2.1
          omega
        · exact ih (fun y hy => hM y (by simp [hy])) h.2.2 n hn
  exact fun xs h => key hl h
/-- the side of three points: exchanged, moved round, alike, turned -/
theorem sides_p (ax ay bx cx b_y cy : Int) :
    ((bx - cx) * (ay - cy) - (b_y - cy) * (ax - cx) = -((ax - cx) * (b_y - cy) - (ay - cy) * (bx - cx))) ∧
    ((bx - ax) * (cy - ay) - (b_y - ay) * (cx - ax) = (ax - cx) * (b_y - cy) - (ay - cy) * (bx - cx)) ∧
    ((ax - cx) * (ay - cy) - (ay - cy) * (ax - cx) = 0) ∧
    ((-ax - -cx) * (-b_y - -cy) - (-ay - -cy) * (-bx - -cx) = (ax - cx) * (b_y - cy) - (ay - cy) * (bx - cx)) := by
  refine ⟨?_, ?_, ?_, ?_⟩ <;> grind
end XC
end Go.Proofs.YtelblhgagpkjmaaDoor

/-
  Package grow, pure: what Check, Value, Sign, Add, Join and Turn tell.
-/
namespace Go.Proofs.YtelblhgagpkjmaaDoor
set_option linter.unusedVariables false
set_option linter.unusedSimpArgs false
open Go.RowKit
set_option linter.unusedVariables false
set_option linter.unusedSimpArgs false
namespace XC
open L NC NK DC RC SC PC
open Z (cmpv)
noncomputable instance (L : List Int) : Decidable (isX L) := Classical.propDecidable _
/-- what Check tells -/
noncomputable def gCk (L : List Int) : Int := if 60 < L.length then 2 else if ∃ x ∈ L, F.exq x = 2047 then 4 else if isX L then 0 else 3
/-- what Value tells -/
noncomputable def gVa (L : List Int) : Re := if gCk L = 0 then ⟨0, tot L dz⟩ else ⟨gCk L, dz⟩
/-- what Sign tells -/
noncomputable def gSn (L : List Int) : Int × Int := if gCk L = 0 then (cmpv (vs L) 0, 0) else (0, gCk L)
/-- what Add tells: the error, and the list -/
noncomputable def gAd (L : List Int) (x : Int) : Int × List Int :=
  if gCk L = 0 then (if F.exq x = 2047 then (4, []) else match AG x L with
    | none => (2, [])
    | some H => (0, H)) else (gCk L, [])
/-- the rest of Join -/
noncomputable def gJe : List Int → List Int → Int × List Int
  | a, [] => if 60 < a.length then (2, []) else (0, a)
  | a, x :: b => if (gAd a x).1 = 0 then gJe (gAd a x).2 b else ((gAd a x).1, [])
/-- what Join tells -/
noncomputable def gJo (a b : List Int) : Int × List Int := if gCk a = 0 then (if gCk b = 0 then gJe a b else (gCk b, [])) else (gCk a, [])
/-- neither 0 nor from 2^-400 to 2^400 -/
def gFr (x : Int) : Prop := x % 9223372036854775808 ≠ 0 ∧ (x % 9223372036854775808 < 2805742567851819008 ∨ 6408622269748215808 < x % 9223372036854775808)
/-- twice the surface, signed -/
def gDet (ax ay bx b_y cx cy : Int) : Int := (val ax - val cx) * (val b_y - val cy) - (val ay - val cy) * (val bx - val cx)
/-- what Turn tells -/
noncomputable def gTu (ax ay bx b_y cx cy : Int) : Int × Int :=
  open Classical in
  if ∃ x ∈ [ax, ay, bx, b_y, cx, cy], F.exq x = 2047 then (0, 4) else if ∃ x ∈ [ax, ay, bx, b_y, cx, cy], gFr x then (0, 2) else (cmpv (gDet ax ay bx b_y cx cy) 0, 0)
theorem gCk_0 {L : List Int} : gCk L = 0 ↔ L.length ≤ 60 ∧ isX L := by
  unfold gCk
  constructor
  · intro h
    split at h
    · omega
    · split at h
      · omega
      · split at h
        · exact ⟨by omega, by assumption⟩
        · omega
  · rintro ⟨h1, h2⟩
    rw [if_neg (by omega), if_neg, if_pos h2]
    rintro ⟨x, hx, hf⟩
    exact (isX_fi h2 x hx).2.2 hf
theorem gCk_fi {L : List Int} (h : gCk L = 0) : ∀ x ∈ L, fi x := isX_fi (gCk_0.1 h).2
/-- an expansion, number by number -/
theorem isX_at : ∀ {L : List Int}, isX L ↔ ∀ k, k < L.length → fi (L.getD k 0) ∧ (OfD (L.getD k 0)).d.m ≠ 0 ∧ (∀ j, j + 1 = k → topx (L.getD j 0) < lowx (L.getD k 0))
  | [] => by
    constructor
    · intro _ k hk; cases hk
    · intro _; trivial
  | x :: t => by
    have ih := isX_at (L := t)
    constructor
    · rintro ⟨h1, h2, h3, h4⟩ k hk
      cases k with
      | zero => exact ⟨h1, h2, fun j hj => by omega⟩
      | succ k =>
        obtain ⟨a, b, c⟩ := ih.1 h4 k (by simpa using hk)
        refine ⟨a, b, fun j hj => ?_⟩
        obtain rfl : j = k := by omega
        cases j with
        | zero =>
          cases t with
          | nil => simp at hk
          | cons y s => exact h3 y rfl
        | succ i => exact c i rfl
    · intro h
      obtain ⟨a, b, -⟩ := h 0 (by simp)
      refine ⟨a, b, ?_, ih.2 fun k hk => ?_⟩
      · intro y hy
        cases t with
        | nil => cases hy
        | cons z s =>
          cases hy
          exact (h 1 (by simp)).2.2 0 rfl
      · obtain ⟨a, b, c⟩ := h (k + 1) (by simpa using hk)
        exact ⟨a, b, fun j hj => c (j + 1) (by omega)⟩
theorem gVa_ok {L : List Int} (h : gCk L = 0) : (gVa L).e = 0 ∧ Ok (gVa L).d ∧ S (gVa L).d = vs L := by
  obtain ⟨h1, h2⟩ := gCk_0.1 h
  have := tot_ok (isX_fi h2) (by omega)
  unfold gVa
  rw [if_pos h]
  exact ⟨rfl, this.1, this.2⟩
/-- a number is 0 just if its Dyad is -/
theorem cls_m {x : Int} (h : fi x) : F.cls x = 1 ↔ (OfD x).d.m = 0 := by
  rw [← val0 h, S_m]; rfl
theorem u_nil : u64s [] := fun y hy => nomatch hy
/-- AG's lists -/
theorem AG_bd : ∀ {L : List Int} {x : Int} {H : List Int}, u64s L → (0 ≤ x ∧ x ≤ 18446744073709551615) → AG x L = some H → u64s H ∧ H.length ≤ L.length + 1
  | [], x, H, _, hx, h => by
    unfold AG at h
    cases h
    split
    · exact ⟨u_nil, by simp⟩
    · exact ⟨fun y hy => by simp at hy; subst hy; exact hx, by simp⟩
  | e :: L, x, H, hL, hx, h => by
    unfold AG at h
    have he := hL e (by simp)
    have b1 : 0 ≤ (T2 x e).1 ∧ (T2 x e).1 ≤ 18446744073709551615 := by
      unfold T2
      split
      · simp
      · split
        · simp
        · exact AT_bd 0 (u2 hx he)
    have b2 : 0 ≤ (T2 x e).2.1 ∧ (T2 x e).2.1 ≤ 18446744073709551615 := by
      have a0 : ∀ {p q : Int}, (0 ≤ p ∧ p ≤ 18446744073709551615) → (0 ≤ q ∧ q ≤ 18446744073709551615) → 0 ≤ ad p q ∧ ad p q ≤ 18446744073709551615 := fun a b => AT_bd 0 (u2 a b)
      have s0 : ∀ {p q : Int}, (0 ≤ p ∧ p ≤ 18446744073709551615) → (0 ≤ q ∧ q ≤ 18446744073709551615) → 0 ≤ sb p q ∧ sb p q ≤ 18446744073709551615 := fun a b => AT_bd 0 (u2 a (F.neg_bd _ b.1 b.2))
      unfold T2
      split
      · simp
      · split
        · simp
        · have bs := a0 hx he
          have ba := s0 bs he
          exact a0 (s0 hx ba) (s0 he (s0 bs ba))
    split at h
    · cases h
    · cases hr : AG (T2 x e).1 L with
      | none => rw [hr] at h; cases h
      | some r =>
        rw [hr] at h
        have ih := AG_bd (L := L) (fun y hy => hL y (by simp [hy])) b1 hr
        cases h
        split
        · exact ⟨ih.1, by simp; omega⟩
        · exact ⟨fun y hy => by rcases List.mem_cons.1 hy with rfl | hy; exact b2; exact ih.1 y hy, by simp; omega⟩
theorem gAd_bd {L : List Int} {x : Int} (hL : u64s L) (hx : 0 ≤ x ∧ x ≤ 18446744073709551615) : u64s (gAd L x).2 ∧ (gAd L x).2.length ≤ 61 := by
  unfold gAd
  have e : u64s [] ∧ ([] : List Int).length ≤ 61 := ⟨u_nil, by simp⟩
  split
  · have hl := (gCk_0.1 (by assumption)).1
    split
    · exact e
    · cases h : AG x L with
      | none => exact e
      | some H =>
        have := AG_bd hL hx h
        exact ⟨this.1, by dsimp only; omega⟩
  · exact e
theorem gJe_bd : ∀ {b a : List Int}, u64s a → u64s b → u64s (gJe a b).2 ∧ (gJe a b).2.length ≤ 60
  | [], a, ha, _ => by
    unfold gJe
    split
    · exact ⟨u_nil, by simp⟩
    · exact ⟨ha, by dsimp only; omega⟩
  | x :: b, a, ha, hb => by
    unfold gJe
    split
    · exact gJe_bd (gAd_bd ha (hb x (by simp))).1 fun y hy => hb y (by simp [hy])
    · exact ⟨u_nil, by simp⟩
theorem gJo_bd {a b : List Int} (ha : u64s a) (hb : u64s b) : u64s (gJo a b).2 ∧ (gJo a b).2.length ≤ 60 := by
  unfold gJo
  have e : u64s [] ∧ ([] : List Int).length ≤ 60 := ⟨u_nil, by simp⟩
  split
  · split
    · exact gJe_bd ha hb
    · exact e
  · exact e
end XC
end Go.Proofs.YtelblhgagpkjmaaDoor

/-
  Package grow, pure: what the laws ask of its answers.
-/
namespace Go.Proofs.YtelblhgagpkjmaaDoor
set_option linter.unusedVariables false
set_option linter.unusedSimpArgs false
open Go.RowKit
set_option linter.unusedVariables false
set_option linter.unusedSimpArgs false
namespace XC
open L NC NK DC RC SC PC QC IC
open Z (cmpv)
/-- one, and much less -/
theorem glive {O Y : Int} (hO : O = 4607182418800017408) (hY : Y = 4363988038922010624) : gAd [O] Y = (0, [Y, O]) ∧ gSn [Y, O] = (1, 0) ∧ gTu 0 0 O 0 0 O = (1, 0) := by
  obtain ⟨fO, vO, sO, cO⟩ := pow_val (p := O) (k := 0) (by omega) (by omega) (by omega)
  obtain ⟨fY, vY, sY, cY⟩ := pow_val (p := Y) (k := -54) (by omega) (by omega) (by omega)
  have pO := sc_one_pos 0
  have pY := sc_one_pos (-54)
  have mO : (OfD O).d.m ≠ 0 := fun q => by have := S_m.1 q; have : val O = 0 := this; omega
  have iO : isX [O] := ⟨fO, mO, fun y hy => (nomatch hy), trivial⟩
  have kO : gCk [O] = 0 := gCk_0.2 ⟨by simp, iO⟩
  have hT : T2 Y O = (O, Y, 0) := by
    obtain ⟨s, r, X, Z, N, e, fs, fr, vx, vy, vN, vr, -, -, -⟩ := two_p fY fO (by unfold F.exq; omega) (by unfold F.exq; omega)
    have es : s = O := by
      have a1 : ad Y O = O := by
        have a2 : ad O Y = O := by
          have := live_sum hO hY
          unfold T2 at this
          rw [if_neg (by rintro (k | k); exact fO.2.2 k; exact fY.2.2 k)] at this
          split at this
          · cases this
          · exact congrArg Prod.fst this
        refine Eq.trans ?_ a2
        unfold ad
        rw [AT_comm (mode := 0) ⟨fY.1, fY.2.1⟩ ⟨fO.1, fO.2.1⟩]
      unfold T2 at e
      rw [if_neg (by rintro (k | k); exact fY.2.2 k; exact fO.2.2 k)] at e
      split at e
      · cases e
      · exact ((congrArg Prod.fst e).symm.trans a1)
    have er : r = Y := by
      have e1 : val r = val Y := by
        rw [es, vy] at vN
        rw [vr, vx, show X + Z - N = X + (Z - N) by omega, Int.add_mul, Int.sub_mul]
        omega
      rcases num_same fr fY e1 with q | q
      · exact q
      · omega
    rw [e, es, er]
  have hA : AG Y [O] = some [Y, O] := by
    unfold AG
    rw [hT]
    rw [if_neg (by simp)]
    unfold AG
    dsimp only [Option.map_some]
    rw [if_neg (by omega), if_neg (by omega)]
  have h1 : gAd [O] Y = (0, [Y, O]) := by
    unfold gAd
    rw [if_pos kO, if_neg fY.2.2, hA]
  obtain ⟨H, e1, e2, e3, e4, e5⟩ := add_p iO (by simp) fY (by unfold F.exq; omega) (fun y hy => by simp at hy; subst hy; unfold F.exq; omega)
  rw [hA] at e1
  cases e1
  refine ⟨h1, ?_, ?_⟩
  · unfold gSn
    rw [if_pos (gCk_0.2 ⟨by simp, e2⟩), e3]
    have e : val Y + vs [O] = sc 1 (-54) + sc 1 0 := by simp only [vs]; omega
    rw [e]
    unfold cmpv
    rw [if_neg (by omega), if_pos (by omega)]
  · have f0 := val00
    unfold gTu
    rw [if_neg, if_neg]
    · unfold gDet
      rw [f0.2]
      unfold cmpv
      have := Int.mul_pos (show 0 < val O by omega) (show 0 < val O by omega)
      have e : (0 - 0) * (0 - val O) - (0 - val O) * (val O - 0) = val O * val O := by grind
      rw [e, if_neg (by omega), if_pos this]
    · rintro ⟨x, hx, g1, g2⟩
      simp at hx
      rcases hx with rfl | rfl | rfl | rfl
      · simp at g1
      · omega
      · simp at g1
      · omega
    · rintro ⟨x, hx, g⟩
      simp at hx
      rcases hx with rfl | rfl | rfl | rfl
      · exact f0.1.2.2 g
      · exact fO.2.2 g
      · exact f0.1.2.2 g
      · exact fO.2.2 g
/-- SHEWCHUK: a number added, by what Add and Value tell -/
theorem gexact {L : List Int} {x : Int} (h : (gAd L x).1 = 0) (hx : 0 ≤ x ∧ x ≤ 18446744073709551615) :
    gCk L = 0 ∧ fi x ∧ ((F.exq x < 1923 ∧ ∀ y ∈ L, F.exq y < 1923) → (gAd L x).2.length ≤ L.length + 1 ∧
      (60 < (gAd L x).2.length → gCk (gAd L x).2 = 2 ∧ (gAd L x).2.length = L.length + 1) ∧
      ((gAd L x).2.length ≤ 60 → gCk (gAd L x).2 = 0 ∧ vs (gAd L x).2 = val x + vs L)) := by
  have k : gCk L = 0 := by
    rcases Classical.em (gCk L = 0) with q | q
    · exact q
    · unfold gAd at h; rw [if_neg q] at h; exact absurd h q
  have fx : fi x := by
    refine ⟨hx.1, hx.2, fun q => ?_⟩
    unfold gAd at h
    rw [if_pos k, if_pos q] at h
    cases h
  refine ⟨k, fx, fun ⟨b1, b2⟩ => ?_⟩
  obtain ⟨k1, k2⟩ := gCk_0.1 k
  obtain ⟨H, e1, e2, e3, e4, e5⟩ := add_p k2 k1 fx b1 b2
  have e : gAd L x = (0, H) := by unfold gAd; rw [if_pos k, if_neg fx.2.2, e1]
  rw [e]
  refine ⟨e4, fun hl => ⟨?_, by dsimp only at *; omega⟩, fun hl => ⟨gCk_0.2 ⟨hl, e2⟩, e3⟩⟩
  unfold gCk
  rw [if_pos hl]
theorem sa_tl : ∀ l : List Int, ((tl l).natAbs : Int) ≤ sa' l
  | [] => by simp [tl, sa']
  | n :: t => by have := sa_tl t; simp only [tl, sa']; omega
theorem gJe_JG : ∀ {b a c : List Int}, gJe a b = (0, c) → (∀ y ∈ b, fi y) → JG a b = some c ∧ c.length ≤ 60
  | [], a, c, h, _ => by
    unfold gJe at h
    split at h
    · cases h
    · cases h
      exact ⟨rfl, by omega⟩
  | x :: b, a, c, h, hb => by
    unfold gJe at h
    split at h
    · rename_i q
      have ih := gJe_JG h fun y hy => hb y (by simp [hy])
      have k : gCk a = 0 := by
        rcases Classical.em (gCk a = 0) with w | w
        · exact w
        · unfold gAd at q; rw [if_neg w] at q; exact absurd q w
      refine ⟨?_, ih.2⟩
      unfold JG
      rw [if_neg (by have := (gCk_0.1 k).1; omega)]
      cases hr : AG x a with
      | none => unfold gAd at q; rw [if_pos k, if_neg (hb x (by simp)).2.2, hr] at q; cases q
      | some H =>
        have e : (gAd a x).2 = H := by unfold gAd; rw [if_pos k, if_neg (hb x (by simp)).2.2, hr]
        rw [e] at ih
        exact ih.1
    · rename_i q
      exact absurd (congrArg Prod.fst h) q
/-- SHEWCHUK: two expansions joined -/
theorem gjoins {a b : List Int} (h : (gJo a b).1 = 0) : gCk a = 0 ∧ gCk b = 0 ∧ ((∀ y ∈ a, F.exq y < 1923) → (∀ y ∈ b, F.exq y < 1923) → gCk (gJo a b).2 = 0 ∧ vs (gJo a b).2 = vs a + vs b) := by
  have k : gCk a = 0 := by
    rcases Classical.em (gCk a = 0) with q | q
    · exact q
    · unfold gJo at h; rw [if_neg q] at h; exact absurd h q
  have k' : gCk b = 0 := by
    rcases Classical.em (gCk b = 0) with q | q
    · exact q
    · unfold gJo at h; rw [if_pos k, if_neg q] at h; exact absurd h q
  refine ⟨k, k', fun ha hb => ?_⟩
  obtain ⟨l1, i1⟩ := gCk_0.1 k
  obtain ⟨l2, i2⟩ := gCk_0.1 k'
  have e : gJo a b = gJe a b := by unfold gJo; rw [if_pos k, if_pos k']
  rw [e] at h ⊢
  obtain ⟨j1, j2⟩ := gJe_JG (b := b) (a := a) (c := (gJe a b).2) (by rw [← h]) (isX_fi i2)
  obtain ⟨K, hK⟩ : ∃ K, K = 1981 := ⟨_, rfl⟩
  obtain ⟨xs, hv⟩ := vl_ex (isX_fi i1)
  have hB : 128 * LL9 = 2 ^ K := by
    unfold LL9
    have := tsplit (a := 1974) (b := K) (by omega)
    rw [show K - 1974 = 7 by omega, show (2 : Int) ^ 7 = 128 by decide] at this
    exact this.symm
  have c2 := LL9_B.2
  have s1 := sa_lim hv ha
  have s2 := sa_tl xs
  have hn := vl_len hv
  have m1 := Int.mul_le_mul_of_nonneg_right (show (xs.length : Int) ≤ 60 by omega) (Int.le_of_lt c2)
  have m2 := Int.mul_le_mul_of_nonneg_right (show (b.length : Int) ≤ 60 by omega) (Int.le_of_lt c2)
  obtain ⟨g1, g2⟩ := join_b hK i1 (bd_9 hK ha) (vl_vs hv) (by rw [← hB]; omega) (fun y hy => ⟨isX_fi i2 y hy, hb y hy⟩) j1
  exact ⟨gCk_0.2 ⟨j2, g1⟩, g2⟩
/-- the sign -/
theorem gsign {L : List Int} (h : gCk L = 0) : gSn L = (cmpv (vs L) 0, 0) ∧ ((cmpv (vs L) 0 = 0) ↔ L = []) := by
  refine ⟨by unfold gSn; rw [if_pos h], ?_⟩
  rw [← vs_zero (gCk_0.1 h).2]
  unfold cmpv
  repeat (first | omega | split)
/-- the sides -/
theorem gTu_0 {ax ay bx b_y cx cy : Int} (h : (gTu ax ay bx b_y cx cy).2 = 0) : (∀ x ∈ [ax, ay, bx, b_y, cx, cy], ¬ F.exq x = 2047) ∧ (∀ x ∈ [ax, ay, bx, b_y, cx, cy], ¬ gFr x) ∧ gTu ax ay bx b_y cx cy = (cmpv (gDet ax ay bx b_y cx cy) 0, 0) := by
  unfold gTu at h ⊢
  split at h
  · cases h
  · split at h
    · cases h
    · rename_i q1 q2
      rw [if_neg q1, if_neg q2]
      exact ⟨fun x hx k => q1 ⟨x, hx, k⟩, fun x hx k => q2 ⟨x, hx, k⟩, rfl⟩
theorem gTu_of {ax ay bx b_y cx cy : Int} (h1 : ∀ x ∈ [ax, ay, bx, b_y, cx, cy], ¬ F.exq x = 2047) (h2 : ∀ x ∈ [ax, ay, bx, b_y, cx, cy], ¬ gFr x) : gTu ax ay bx b_y cx cy = (cmpv (gDet ax ay bx b_y cx cy) 0, 0) := by
  unfold gTu
  rw [if_neg (fun ⟨x, hx, k⟩ => h1 x hx k), if_neg (fun ⟨x, hx, k⟩ => h2 x hx k)]
theorem gTu_er {ax ay bx b_y cx cy ax' ay' bx' b_y' cx' cy' : Int} (h : ∀ x, x ∈ [ax, ay, bx, b_y, cx, cy] ↔ x ∈ [ax', ay', bx', b_y', cx', cy']) (h0 : (gTu ax ay bx b_y cx cy).2 ≠ 0) : (gTu ax' ay' bx' b_y' cx' cy').2 = (gTu ax ay bx b_y cx cy).2 := by
  unfold gTu at h0 ⊢
  have e1 : (∃ x ∈ [ax, ay, bx, b_y, cx, cy], F.exq x = 2047) ↔ (∃ x ∈ [ax', ay', bx', b_y', cx', cy'], F.exq x = 2047) := by simp only [h]
  have e2 : (∃ x ∈ [ax, ay, bx, b_y, cx, cy], gFr x) ↔ (∃ x ∈ [ax', ay', bx', b_y', cx', cy'], gFr x) := by simp only [h]
  by_cases q1 : ∃ x ∈ [ax, ay, bx, b_y, cx, cy], F.exq x = 2047
  · rw [if_pos q1, if_pos (e1.1 q1)]
  · rw [if_neg q1] at h0 ⊢
    rw [if_neg (fun k => q1 (e1.2 k))]
    by_cases q2 : ∃ x ∈ [ax, ay, bx, b_y, cx, cy], gFr x
    · rw [if_pos q2, if_pos (e2.1 q2)]
    · rw [if_neg q2] at h0
      exact absurd rfl h0
theorem cmpv_neg (a : Int) : cmpv (-a) 0 = -cmpv a 0 := by
  unfold cmpv
  repeat (first | omega | split)
theorem gFr_neg {x : Int} (hx : 0 ≤ x ∧ x ≤ 18446744073709551615) : gFr (F.neg x) ↔ gFr x := by
  have e : F.neg x % 9223372036854775808 = x % 9223372036854775808 := F.abs_neg x
  unfold gFr
  rw [e]
theorem gsides {ax ay bx b_y cx cy : Int} (u : u64s [ax, ay, bx, b_y, cx, cy]) :
    ((gTu ax ay bx b_y cx cy).2 ≠ 0 → (gTu bx b_y ax ay cx cy).2 = (gTu ax ay bx b_y cx cy).2 ∧ (gTu bx b_y cx cy ax ay).2 = (gTu ax ay bx b_y cx cy).2) ∧
    ((gTu ax ay bx b_y cx cy).2 = 0 → ∃ n, (n = 0 ∨ n = 1 ∨ n = -1) ∧ gTu ax ay bx b_y cx cy = (n, 0) ∧ gTu bx b_y ax ay cx cy = (-n, 0) ∧ gTu bx b_y cx cy ax ay = (n, 0) ∧ gTu ax ay ax ay cx cy = (0, 0) ∧ gTu (F.neg ax) (F.neg ay) (F.neg bx) (F.neg b_y) (F.neg cx) (F.neg cy) = (n, 0)) := by
  constructor
  · intro h
    exact ⟨gTu_er (fun x => by simp only [List.mem_cons, List.not_mem_nil, or_false]; grind) h, gTu_er (fun x => by simp only [List.mem_cons, List.not_mem_nil, or_false]; grind) h⟩
  · intro h
    obtain ⟨h1, h2, h3⟩ := gTu_0 h
    have f : ∀ x ∈ [ax, ay, bx, b_y, cx, cy], fi x := fun x hx => ⟨(u x hx).1, (u x hx).2, h1 x hx⟩
    have v : ∀ x ∈ [ax, ay, bx, b_y, cx, cy], val (F.neg x) = -val x := fun x hx => val_neg (f x hx)
    obtain ⟨s1, s2, s3, s4⟩ := sides_p (val ax) (val ay) (val bx) (val cx) (val b_y) (val cy)
    refine ⟨_, ?_, h3, ?_, ?_, ?_, ?_⟩
    · unfold cmpv
      repeat (first | omega | split)
    · rw [gTu_of (fun x hx => h1 x (by simp at hx ⊢; grind)) (fun x hx => h2 x (by simp at hx ⊢; grind))]
      rw [← cmpv_neg]
      unfold gDet
      rw [s1]
    · rw [gTu_of (fun x hx => h1 x (by simp at hx ⊢; grind)) (fun x hx => h2 x (by simp at hx ⊢; grind))]
      unfold gDet
      rw [s2]
    · rw [gTu_of (fun x hx => h1 x (by simp at hx ⊢; grind)) (fun x hx => h2 x (by simp at hx ⊢; grind))]
      unfold gDet
      rw [s3]
      rfl
    · rw [gTu_of]
      · unfold gDet
        rw [v ax (by simp), v ay (by simp), v bx (by simp), v b_y (by simp), v cx (by simp), v cy (by simp), s4]
      · intro x hx
        have : ∃ y ∈ [ax, ay, bx, b_y, cx, cy], x = F.neg y := by simp at hx ⊢; grind
        obtain ⟨y, hy, rfl⟩ := this
        rw [F.exq_neg]
        exact h1 y hy
      · intro x hx
        have : ∃ y ∈ [ax, ay, bx, b_y, cx, cy], x = F.neg y := by simp at hx ⊢; grind
        obtain ⟨y, hy, rfl⟩ := this
        rw [gFr_neg (u y hy)]
        exact h2 y hy
end XC
end Go.Proofs.YtelblhgagpkjmaaDoor

