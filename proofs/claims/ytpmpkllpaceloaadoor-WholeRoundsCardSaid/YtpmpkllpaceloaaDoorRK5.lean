/-
  RoundNear: what is asked, and the walk.
-/
import Derived.Test.YtpmpkllpaceloaaDoorRK4
import Derived.Test.YtpmpkllpaceloaaDoorDK2
namespace Go.Proofs.YtpmpkllpaceloaaDoor
set_option linter.unusedVariables false
set_option linter.unusedSimpArgs false
open Go.RowKit
set_option linter.unusedVariables false
set_option linter.unusedSimpArgs false
namespace RC
open L NC NK DC
open Z (Nz Tz cmpv)
/-- without its sign -/
def ab (d : Dy) : Dy := ⟨d.er, (d.m.natAbs : Int), d.x⟩
theorem gv_ab {w : World} {b A n c x d} (h : GV w b A n c x d) : GV w false A n c x (ab d) := by
  obtain ⟨h1, hb, hx, he, hc, hi⟩ := h
  refine ⟨?_, ?_, hx, he, ?_, ?_⟩
  · show NV w _ (((d.m.natAbs : Int).natAbs : Nat) : Int)
    rw [Int.natAbs_natCast]; exact h1
  · show false = decide ((d.m.natAbs : Int) < 0)
    symm; rw [decide_eq_false_iff_not]; omega
  · unfold can at *
    show ((d.m.natAbs : Int) = 0 ∧ d.x = 0) ∨ (d.m.natAbs : Int) % 2 = 1
    omega
  · unfold inb at *
    show (d.m.natAbs : Int) < _ ∧ _ < (d.m.natAbs : Int) ∧ -10000 ≤ d.x ∧ d.x ≤ 10000
    generalize (4294967296 : Int) ^ 400 = c400 at *
    omega
theorem ab_ok {d : Dy} (h : Ok d) : Ok (ab d) := by
  obtain ⟨he, hc, hi⟩ := h
  refine ⟨he, ?_, ?_⟩
  · unfold can at *
    show ((d.m.natAbs : Int) = 0 ∧ d.x = 0) ∨ (d.m.natAbs : Int) % 2 = 1
    omega
  · unfold inb at *
    show (d.m.natAbs : Int) < _ ∧ _ < (d.m.natAbs : Int) ∧ -10000 ≤ d.x ∧ d.x ≤ 10000
    generalize (4294967296 : Int) ^ 400 = c400 at *
    omega
theorem S_ab (d : Dy) : S (ab d) = A d := rfl
/-- of all that have a value the nearest -/
theorem near_u {a r s : Int} {hf m b o : Bool} {mode : Int} (t : Tow a r hf m) (hm : mode = 0 ∨ mode = 4) (hY : (if up b o hf m mode = true then r + 1 else r) ≤ 9218868437227405311) (h0 : 0 ≤ s) (h1 : s ≤ 9218868437227405311) (ho : o = decide (r % 2 = 1)) :
    (a - U (if up b o hf m mode = true then r + 1 else r) ≤ a - U s ∨ a - U (if up b o hf m mode = true then r + 1 else r) ≤ U s - a) ∧ (U (if up b o hf m mode = true then r + 1 else r) - a ≤ a - U s ∨ U (if up b o hf m mode = true then r + 1 else r) - a ≤ U s - a) ∧
    a - U (if up b o hf m mode = true then r + 1 else r) ≤ a ∧ U (if up b o hf m mode = true then r + 1 else r) - a ≤ a := by
  have g := U_lt t.r0 (show r < r + 1 by omega)
  have r0 := t.r0
  have r1 := t.r1
  have lo1 := t.lo
  have hi1 := t.hi
  have q1 := t.hh
  have q2 := t.hm
  have p0 := U_pos r0
  have ps := U_pos h0
  have c : s ≤ r → U s ≤ U r := fun h => U_le h0 h
  have c2 : r + 1 ≤ s → U (r + 1) ≤ U s := fun h => U_le (by omega) h
  have e1 : hf = true ↔ U r + U (r + 1) ≤ 2 * a := by rw [q1, decide_eq_true_iff]
  have e2 : m = true ↔ a ≠ U r ∧ 2 * a ≠ U r + U (r + 1) := by rw [q2, decide_eq_true_iff]
  clear q1 q2
  by_cases hu : up b o hf m mode = true
  · rw [if_pos hu] at hY ⊢
    have hh : hf = true := by
      unfold up at hu
      rcases hm with rfl | rfl <;> cases hf <;> cases m <;> simp_all
    have k := e1.1 hh
    have k2 := hi1 (by omega)
    rcases Int.lt_or_le r s with h | h
    · have := c2 (by omega); omega
    · have := c h; omega
  · rw [if_neg hu] at hY ⊢
    have hh : hf = false ∨ 2 * a = U r + U (r + 1) := by
      unfold up at hu
      rcases hm with rfl | rfl
      · cases hf
        · exact .inl rfl
        · right
          have : m = false := by cases m; rfl; simp at hu
          have k := e1.1 rfl
          subst this
          have k2 : ¬ (a ≠ U r ∧ 2 * a ≠ U r + U (r + 1)) := fun h => by have := e2.2 h; cases this
          omega
      · cases hf
        · exact .inl rfl
        · simp at hu
    have k : 2 * a ≤ U r + U (r + 1) := by
      rcases hh with h | h
      · have : ¬ U r + U (r + 1) ≤ 2 * a := fun h2 => by rw [e1.2 h2] at h; cases h
        omega
      · omega
    rcases Int.lt_or_le r s with h | h
    · have := c2 (by omega); omega
    · have := c h; omega
theorem rx_mod {b : Bool} {y : Int} (h0 : 0 ≤ y) (h1 : y ≤ 9218868437227405312) : rx b y % 9223372036854775808 = y ∧ F.sgn (rx b y) = b := by
  unfold rx F.neg F.sgn
  cases b
  · simp; omega
  · simp; rw [if_pos (by omega)]; omega
theorem OfD_e {x : Int} (h : (OfD x).e = 0) : F.exq x ≠ 2047 := fun h2 => by
  unfold OfD at h; rw [if_pos h2] at h; cases h
theorem near_p {d : Dy} {mode y : Int} (hd : Ok d) (hm : mode = 0 ∨ mode = 4) (y0 : 0 ≤ y) (y1 : y ≤ 18446744073709551615) (hf : (OfD (TX d mode)).e = 0) (hg : (OfD y).e = 0)
    (hp : (Sub d (OfD (TX d mode)).d).e = 0) (hq : (Sub d (OfD y).d).e = 0) : Cmpn (ab (Sub d (OfD (TX d mode)).d).d) (ab (Sub d (OfD y).d).d) ≤ 0 := by
  rw [cmpn_S (ab_ok (sub_good _ _)) (ab_ok (sub_good _ _)), S_ab, S_ab]
  obtain ⟨r, h, m, t, -⟩ := towA hd
  have eX := (TX_of hd (mode := mode) (by omega) t).1
  have k := ry_bd (b := ng d) t mode
  have xb := TX_bd d mode fun _ => hd
  obtain ⟨-, o1, v1, s1⟩ := of_p xb.1 xb.2.1 (OfD_e hf)
  obtain ⟨-, o2, v2, s2⟩ := of_p y0 y1 (OfD_e hg)
  have a1 := (sub_ok' hp (fun _ => hd) (fun _ => o1)).2.2
  have a2 := (sub_ok' hq (fun _ => hd) (fun _ => o2)).2.2
  have xm := rx_mod (b := ng d) k.1 k.2.1
  rw [← eX] at xm
  rw [xm.1, xm.2] at v1
  rw [xm.1] at s1
  rw [v1] at a1
  rw [v2] at a2
  have p1 := A_abs (Sub d (OfD (TX d mode)).d).d
  have p2 := A_abs (Sub d (OfD y).d).d
  have p3 := A_abs d
  have n0 : 0 ≤ y % 9223372036854775808 := by omega
  have nu := near_u (b := ng d) t hm (by unfold ry at s1; exact s1) n0 s2 rfl
  unfold ry at a1
  have u0 := U_pos n0
  generalize U (if up (ng d) (decide (r % 2 = 1)) h m mode = true then r + 1 else r) = u1 at *
  generalize U (y % 9223372036854775808) = u2 at *
  generalize S (Sub d (OfD (TX d mode)).d).d = P at *
  generalize S (Sub d (OfD y).d).d = Q at *
  generalize A (Sub d (OfD (TX d mode)).d).d = AP at *
  generalize A (Sub d (OfD y).d).d = AQ at *
  generalize ng (Sub d (OfD (TX d mode)).d).d = b1 at *
  generalize ng (Sub d (OfD y).d).d = b2 at *
  have hle : AP ≤ AQ := by
    unfold sgm at a1 a2
    rcases Int.lt_or_le (S d) 0 with h1 | h1
    · obtain ⟨g1, g2⟩ := p3.2 h1
      rw [g2] at a1
      simp only [if_true] at a1
      rw [g1] at nu
      clear p3 v1 v2
      rcases Int.lt_or_le P 0 with h2 | h2
      · have k1 := (p1.2 h2).1
        rcases Int.lt_or_le Q 0 with h3 | h3
        · have k2 := (p2.2 h3).1
          cases hs : F.sgn y <;> rw [hs] at a2 <;> simp at a2 <;> omega
        · have k2 := (p2.1 h3).1
          cases hs : F.sgn y <;> rw [hs] at a2 <;> simp at a2 <;> omega
      · have k1 := (p1.1 h2).1
        rcases Int.lt_or_le Q 0 with h3 | h3
        · have k2 := (p2.2 h3).1
          cases hs : F.sgn y <;> rw [hs] at a2 <;> simp at a2 <;> omega
        · have k2 := (p2.1 h3).1
          cases hs : F.sgn y <;> rw [hs] at a2 <;> simp at a2 <;> omega
    · obtain ⟨g1, g2⟩ := p3.1 h1
      rw [g2] at a1
      simp only [Bool.false_eq_true, if_false] at a1
      rw [g1] at nu
      clear p3 v1 v2
      rcases Int.lt_or_le P 0 with h2 | h2
      · have k1 := (p1.2 h2).1
        rcases Int.lt_or_le Q 0 with h3 | h3
        · have k2 := (p2.2 h3).1
          cases hs : F.sgn y <;> rw [hs] at a2 <;> simp at a2 <;> omega
        · have k2 := (p2.1 h3).1
          cases hs : F.sgn y <;> rw [hs] at a2 <;> simp at a2 <;> omega
      · have k1 := (p1.1 h2).1
        rcases Int.lt_or_le Q 0 with h3 | h3
        · have k2 := (p2.2 h3).1
          cases hs : F.sgn y <;> rw [hs] at a2 <;> simp at a2 <;> omega
        · have k2 := (p2.1 h3).1
          cases hs : F.sgn y <;> rw [hs] at a2 <;> simp at a2 <;> omega
  have := cmpv_3 AP AQ
  omega
end RC
end Go.Proofs.YtpmpkllpaceloaaDoor
