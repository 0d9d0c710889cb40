/-
  Package quot, pure: a real number that is known by what is no more, and what is less, than twice it: the greatest rank, the half, the rest; what is told.
-/
import Derived.Test.YtpmjeipdldnnbaaGreatDoorP3
import Derived.Test.YtpmjeipdldnnbaaGreatDoorK9
namespace Go.Proofs.YtpmjeipdldnnbaaGreatDoor
set_option linter.unusedVariables false
set_option linter.unusedSimpArgs false
open Go.RowKit
set_option linter.unusedVariables false
set_option linter.unusedSimpArgs false
namespace JC
open L NC NK DC RC SC PC
/-- what is no more than twice a real number, and what is less -/
structure Cut (le lt : Int → Prop) : Prop where
  a : ∀ t, lt t → le t
  b : ∀ s t, s < t → le t → lt s
structure Tog (le lt : Int → Prop) (r : Int) (h m : Bool) : Prop where
  r0 : 0 ≤ r
  r1 : r ≤ 9218868437227405311
  lo : le (2 * U r)
  hi : r < 9218868437227405311 → ¬ le (2 * U (r + 1))
  hh : h = true ↔ le (U r + U (r + 1))
  hm : m = true ↔ (lt (2 * U r) ∧ (le (U r + U (r + 1)) → lt (U r + U (r + 1))))
section
variable {le lt le' lt' : Int → Prop}
theorem Cut.dn (C : Cut le lt) {s t : Int} (h : s ≤ t) (k : le t) : le s := by
  rcases Int.lt_or_eq_of_le h with h | rfl
  · exact C.a _ (C.b _ _ h k)
  · exact k
theorem Cut.dlt (C : Cut le lt) {s t : Int} (h : s ≤ t) (k : lt t) : lt s := by
  rcases Int.lt_or_eq_of_le h with h | rfl
  · exact C.b _ _ h (C.a _ k)
  · exact k
theorem Tog.unique {r s : Int} {h m h' m' : Bool} (C : Cut le lt) (t : Tog le lt r h m) (t' : Tog le lt s h' m') : r = s ∧ h = h' ∧ m = m' := by
  have key : ∀ {r s : Int} {h m h' m' : Bool}, Tog le lt r h m → Tog le lt s h' m' → ¬ r < s := by
    intro r s h m h' m' t t' hl
    have c1 := U_le (r := r + 1) (s := s) (by have := t.r0; omega) (by omega)
    exact t.hi (by have := t'.r1; omega) (C.dn (by omega) t'.lo)
  have h1 := key t t'
  have h2 := key t' t
  obtain rfl : r = s := by omega
  refine ⟨rfl, ?_, ?_⟩
  · have := t.hh.trans t'.hh.symm
    cases h <;> cases h' <;> simp_all
  · have := t.hm.trans t'.hm.symm
    cases m <;> cases m' <;> simp_all
/-- the near numbers and their middles lie on a grid of which no point is inside -/
theorem tog_grid {z x r u0 u1 a e : Int} {hf m left : Bool} (C : Cut le lt) (r0 : 0 ≤ r) (r1 : r ≤ 9218868437227405311) (hu0 : U r = u0) (hu1 : U (r + 1) = u1) (e0 : 0 < e) (h01 : u0 < u1) (tl : u0 ≤ a) (th : r < 9218868437227405311 → a < u1) (thh : hf = decide (u0 + u1 ≤ 2 * a)) (thm : m = decide (a ≠ u0 ∧ 2 * a ≠ u0 + u1))
    (g1 : u0 + u1 ≤ 2 * a ∨ 2 * a + 2 * e ≤ u0 + u1) (g2 : 2 * u1 ≤ 2 * a ∨ 2 * a + 2 * e ≤ 2 * u1)
    (hl : le (2 * a)) (hu : ¬ le (2 * a + 2 * e)) (hleft : left = true ↔ lt (2 * a)) : Tog le lt r hf (m || left) := by
  subst hu0
  subst hu1
  generalize h0 : U r = u0 at *
  generalize h1 : U (r + 1) = u1 at *
  have up : ∀ T, 2 * a + 2 * e ≤ T → ¬ le T := fun T hT k => hu (C.dn hT k)
  have mid : le (u0 + u1) ↔ u0 + u1 ≤ 2 * a := by
    constructor
    · intro k
      rcases g1 with g | g
      · exact g
      · exact absurd k (up _ g)
    · intro k; exact C.dn k hl
  refine ⟨r0, r1, ?_, ?_, ?_, ?_⟩
  · rw [h0]; exact C.dn (by clear h0 h1; omega) hl
  · intro hr
    rw [h1]
    have := th hr
    rcases g2 with g | g
    · clear h0 h1; omega
    · exact up _ g
  · rw [h0, h1, mid, thh, decide_eq_true_iff]
  · rw [h0, h1]
    cases left
    · have nl : ¬ lt (2 * a) := fun k => by have := hleft.2 k; cases this
      have lt_iff : ∀ T, T ≤ 2 * a → (lt T ↔ T < 2 * a) := fun T hT => by
        constructor
        · intro k
          rcases Int.lt_or_eq_of_le hT with h | rfl
          · exact h
          · exact absurd k nl
        · intro k; exact C.b _ _ k hl
      rw [Bool.or_false, thm, decide_eq_true_iff, lt_iff _ (by clear h0 h1; omega)]
      constructor
      · rintro ⟨k1, k2⟩
        refine ⟨by clear h0 h1; omega, fun k => ?_⟩
        have k3 := mid.1 k
        exact (lt_iff _ k3).2 (by clear h0 h1; omega)
      · rintro ⟨k1, k2⟩
        refine ⟨by clear h0 h1; omega, fun k => ?_⟩
        have k3 := (lt_iff _ (by clear h0 h1; omega)).1 (k2 (mid.2 (by clear h0 h1; omega)))
        clear h0 h1; omega
    · have l := hleft.1 rfl
      rw [Bool.or_true]
      simp only [true_iff]
      exact ⟨C.dlt (by clear h0 h1; omega) l, fun k => C.dlt (mid.1 k) l⟩
theorem tog_near {z x r : Int} {hf m left : Bool} (C : Cut le lt) (hx : -20000 ≤ x ∧ x ≤ 20000) (hz : 0 < z) (hz2 : z < 4294967296 ^ 400) (hg : 18014398509481984 ≤ z ∨ x ≤ -1076) (t : Tow (sc z x) r hf m)
    (hl : le (2 * sc z x)) (hu : ¬ le (2 * sc z x + 2 * sc 1 x)) (hleft : left = true ↔ lt (2 * sc z x)) : Tog le lt r hf (m || left) := by
  have h01 := U_lt t.r0 (show r < r + 1 by omega)
  have e0 := sc_one_pos x
  have grid : (U r + U (r + 1) ≤ 2 * sc z x ∨ 2 * sc z x + 2 * sc 1 x ≤ U r + U (r + 1)) ∧ (2 * U (r + 1) ≤ 2 * sc z x ∨ 2 * sc z x + 2 * sc 1 x ≤ 2 * U (r + 1)) := by
    obtain ⟨b, k1, k2, k3, k4⟩ := bits_ex 12800 z (by omega) (by rw [← pow_12800]; exact hz2)
    by_cases ht : b + x ≤ 1024
    · obtain ⟨k, q, H, ρ, e, he, hb, q0, q1, -, -, -, h2, -, -, hρ, -, hU, hU1, t'⟩ := near_parts hx.1 k3 k4 k2 ht
      obtain ⟨hr, -, -⟩ := t.unique t'
      rw [hr, hU, hU1]
      have h2e : 2 * sc 1 x ≤ e := by
        have a1 := sc_two 1 x (by omega)
        rw [show (2 : Int) ^ 1 = 2 by decide, sc_mul1] at a1
        rw [a1, he]
        apply sc1_le _ (by omega)
        rcases hg with hg | hg
        · have : 54 < b := by
            rcases Nat.lt_or_ge 54 b with h | h
            · exact h
            · exfalso
              have : (2 : Int) ^ b ≤ 2 ^ 54 := two_le' h
              have e54 : (2 : Int) ^ 54 = 18014398509481984 := by decide
              omega
          omega
        · omega
      have ep : 0 < e := by omega
      have key : ∀ j : Int, j * e ≤ 2 * sc z x ∨ 2 * sc z x + 2 * sc 1 x ≤ j * e := fun j => by
        rw [h2]
        rcases Int.lt_or_le H j with hj | hj
        · right
          have := Int.mul_le_mul_of_nonneg_right (show H + 1 ≤ j by omega) (Int.le_of_lt ep)
          rw [Int.add_mul, Int.one_mul] at this
          omega
        · left
          have := Int.mul_le_mul_of_nonneg_right hj (Int.le_of_lt ep)
          omega
      refine ⟨?_, ?_⟩
      · have := key (q + (q + 1))
        rw [Int.add_mul q (q + 1)] at this
        exact this
      · have := key (2 * (q + 1))
        rw [Int.mul_assoc] at this
        exact this
    · have e1 : sc 1 (x + (b - 1 : Nat)) ≤ sc z x := by rw [← sc_two _ x (by omega), sc_le]; exact k4
      obtain ⟨u, hu⟩ : ∃ u : Int, u = 1024 := ⟨_, rfl⟩
      have e2 : sc 1 u ≤ sc z x := Int.le_trans (sc1_le (by omega) (by omega)) e1
      obtain ⟨M, hM⟩ : ∃ M : Int, M = 9218868437227405311 := ⟨_, rfl⟩
      have tf := tow_far hu hM e2
      obtain ⟨rfl, -, -⟩ := t.unique tf
      have e3 : U (r + 1) = sc 1 u := by
        have g := (U_of (k := 2045) (q := 9007199254740991) (by omega) (by omega) (by omega)).2
        rw [show ((2045 : Nat) : Int) * 4503599627370496 + 9007199254740991 + 1 = r + 1 by omega] at g
        rw [g, ← sc_mul1, show (9007199254740991 : Int) + 1 = 2 ^ 53 by decide, sc_two 53 _ (by omega)]
        congr 1; omega
      rw [e3] at h01 ⊢
      generalize sc 1 u = B at *
      generalize U r = u0 at *
      refine ⟨.inl ?_, .inl ?_⟩
      · clear e3; omega
      · clear e3; omega
  exact tog_grid (z := z) (x := x) C t.r0 t.r1 rfl rfl e0 h01 t.lo t.hi t.hh t.hm grid.1 grid.2 hl hu hleft
/-- a number -/
theorem tog_exact (C : Cut le lt) {r : Int} (r0 : 0 ≤ r) (r1 : r ≤ 9218868437227405311) (h : le (2 * U r)) (h' : ¬ lt (2 * U r)) : Tog le lt r false false := by
  have h01 := U_lt r0 (show r < r + 1 by omega)
  have n1 : ¬ le (U r + U (r + 1)) := fun k => h' (C.b _ _ (by omega) k)
  have n2 : ¬ le (2 * U (r + 1)) := fun k => h' (C.b _ _ (by omega) k)
  exact ⟨r0, r1, h, fun _ => n2, by simp [n1], by simp [h']⟩
theorem Tog.exact {r : Int} {h m : Bool} (C : Cut le lt) (t : Tog le lt r h m) : (h || m) = false ↔ ¬ lt (2 * U r) := by
  have h01 := U_lt t.r0 (show r < r + 1 by omega)
  constructor
  · intro k l
    have h1 : h = false := by cases h <;> simp_all
    have h2 : m = false := by cases m <;> simp_all
    subst h1
    subst h2
    have a := t.hm
    have b := t.hh
    simp only [Bool.false_eq_true, false_iff] at a b
    exact a ⟨l, fun k => absurd k b⟩
  · intro l
    obtain ⟨-, h1, h2⟩ := t.unique C (tog_exact C t.r0 t.r1 t.lo l)
    rw [h1, h2]; rfl
end
open Classical in
/-- the rank, the half, the rest -/
noncomputable def tog (le lt : Int → Prop) : Int × Bool × Bool := if h : ∃ t : Int × Bool × Bool, Tog le lt t.1 t.2.1 t.2.2 then h.choose else (0, false, false)
theorem tog_eq {le lt : Int → Prop} {r : Int} {h m : Bool} (C : Cut le lt) (t : Tog le lt r h m) : tog le lt = (r, h, m) := by
  unfold tog
  have hx : ∃ t : Int × Bool × Bool, Tog le lt t.1 t.2.1 t.2.2 := ⟨(r, h, m), t⟩
  rw [dif_pos hx]
  obtain ⟨h1, h2, h3⟩ := hx.choose_spec.unique C t
  exact Prod.ext h1 (Prod.ext h2 h3)
/-- what is told of it, with its sign -/
noncomputable def RT (b : Bool) (le lt : Int → Prop) (mode : Int) : Int × Bool × Int := (rx b (ry b (tog le lt).1 (tog le lt).2.1 (tog le lt).2.2 mode), (tog le lt).2.1 || (tog le lt).2.2, 0)
theorem RT_of {le lt : Int → Prop} {r : Int} {h m : Bool} (C : Cut le lt) (t : Tog le lt r h m) (b : Bool) (mode : Int) : RT b le lt mode = (rx b (ry b r h m mode), h || m, 0) := by
  unfold RT
  rw [tog_eq C t]
/-- a quotient of two numbers above 0; a root -/
def qle (n d : Int) (t : Int) : Prop := t * d ≤ 2 * n
def qlt (n d : Int) (t : Int) : Prop := t * d < 2 * n
def rle (n : Int) (t : Int) : Prop := t ≤ 0 ∨ t * t ≤ 4 * n
def rlt (n : Int) (t : Int) : Prop := t ≤ 0 ∨ t * t < 4 * n
theorem qcut {n d : Int} (hd : 0 < d) : Cut (qle n d) (qlt n d) := by
  refine ⟨fun t h => Int.le_of_lt h, fun s t h k => ?_⟩
  have := Int.mul_lt_mul_of_pos_right h hd
  unfold qle at k
  unfold qlt
  omega
theorem rcut (n : Int) : Cut (rle n) (rlt n) := by
  refine ⟨fun t h => ?_, fun s t h k => ?_⟩
  · rcases h with h | h
    · exact .inl h
    · exact .inr (Int.le_of_lt h)
  · rcases Int.lt_or_le 0 s with hs | hs
    · right
      have : ¬ t ≤ 0 := by omega
      have k := k.resolve_left this
      have a := Int.mul_lt_mul_of_pos_right h hs
      have b := Int.mul_lt_mul_of_pos_left h (show 0 < t by omega)
      omega
    · exact .inl hs
end JC
end Go.Proofs.YtpmjeipdldnnbaaGreatDoor
