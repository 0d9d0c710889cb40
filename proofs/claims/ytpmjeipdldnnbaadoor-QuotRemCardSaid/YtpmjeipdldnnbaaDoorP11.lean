/-
  The document's product and fused sum.
-/
import Derived.Test.YtpmjeipdldnnbaaDoorP6
import Derived.Test.YtpmjeipdldnnbaaDoorP10
import Derived.Test.YtpmjeipdldnnbaaDoorV4
namespace Go.Proofs.YtpmjeipdldnnbaaDoor
set_option linter.unusedVariables false
set_option linter.unusedSimpArgs false
open Go.RowKit
set_option linter.unusedVariables false
set_option linter.unusedSimpArgs false
namespace PC
open Z (Nz Tz cmpv big)
open ZC DC RC QC SC VC
theorem Minus_v (x : Int) (w : World) : Calls Tryd.prog 47 #[.int .u64 x] w fun e w' => e = .returned (.bool (F.sgn x)) ∧ w = w' := Minus_c x w
theorem IsZero_c (x : Int) (h0 : 0 ≤ x) (h1 : x ≤ 18446744073709551615) (w : World) : Calls Tryd.prog 35 #[.int .u64 x] w fun e w' => e = .returned (.bool (F.cls x == 1)) ∧ w = w' := by
  go_enter Tryd.func35, Tryd.ntmps35
  go_wp2_with (first | (go_at_call 78; (with_reducible refine (FloatR.ClassOf_c x h0 h1 _).mono ?_); rintro e w' ⟨rfl, rfl⟩))
  go_ret
  exact ⟨rfl, rfl⟩
theorem sp_b (x y : Int) : sp x y = if (F.sgn x != F.sgn y) = true then 9223372036854775808 else 0 := by
  unfold sp; cases F.sgn x <;> cases F.sgn y <;> rfl
/-- the kinds of two factors -/
theorem kinds2 (x y : Int) :
    ((F.cls x == 5) = true ∧ bc x y = (9221120237041090560, true)) ∨
    ((F.cls x == 5) = false ∧ (F.cls y == 5) = true ∧ bc x y = (9221120237041090560, true)) ∨
    ((F.cls x == 5) = false ∧ (F.cls y == 5) = false ∧ (F.cls x == 4) = true ∧ (F.cls y == 1) = true ∧ bc x y = (9221120237041090560, true)) ∨
    ((F.cls x == 5) = false ∧ (F.cls y == 5) = false ∧ (F.cls x == 4) = true ∧ (F.cls y == 1) = false ∧ (F.cls x == 1) = false ∧ bc x y = (sp x y + 9218868437227405312, true)) ∨
    ((F.cls x == 5) = false ∧ (F.cls y == 5) = false ∧ (F.cls x == 4) = false ∧ (F.cls x == 1) = true ∧ (F.cls y == 4) = true ∧ bc x y = (9221120237041090560, true)) ∨
    ((F.cls x == 5) = false ∧ (F.cls y == 5) = false ∧ (F.cls x == 4) = false ∧ (F.cls x == 1) = false ∧ (F.cls y == 4) = true ∧ bc x y = (sp x y + 9218868437227405312, true)) ∨
    ((F.cls x == 5) = false ∧ (F.cls y == 5) = false ∧ (F.cls x == 4) = false ∧ (F.cls y == 4) = false ∧ (F.cls x == 1) = true ∧ bc x y = (sp x y, true)) ∨
    ((F.cls x == 5) = false ∧ (F.cls y == 5) = false ∧ (F.cls x == 4) = false ∧ (F.cls y == 4) = false ∧ (F.cls x == 1) = false ∧ (F.cls y == 1) = true ∧ bc x y = (sp x y, true)) ∨
    ((F.cls x == 5) = false ∧ (F.cls y == 5) = false ∧ (F.cls x == 4) = false ∧ (F.cls y == 4) = false ∧ (F.cls x == 1) = false ∧ (F.cls y == 1) = false ∧ bc x y = (0, false)) := by
  have a := F.cls_bd x
  have b := F.cls_bd y
  unfold bc
  generalize sp x y = s
  generalize F.cls x = cx at *
  generalize F.cls y = cy at *
  have kx : cx = 1 ∨ cx = 2 ∨ cx = 3 ∨ cx = 4 ∨ cx = 5 := by omega
  have ky : cy = 1 ∨ cy = 2 ∨ cy = 3 ∨ cy = 4 ∨ cy = 5 := by omega
  clear a b
  rcases kx with rfl | rfl | rfl | rfl | rfl <;> rcases ky with rfl | rfl | rfl | rfl | rfl
  all_goals (
    first
      | (rw [if_pos (by decide)]; simp; done)
      | (rw [if_neg (by decide), if_pos (by decide)]; simp; done)
      | (rw [if_neg (by decide), if_neg (by decide), if_pos (by decide)]; simp; done)
      | (rw [if_neg (by decide), if_neg (by decide), if_neg (by decide)]; simp; done))
theorem fi_b {x : Int} (hx : 0 ≤ x ∧ x ≤ 18446744073709551615) (h5 : (F.cls x == 5) = false) (h4 : (F.cls x == 4) = false) : fi x :=
  ⟨hx.1, hx.2, cls_fi.1 ⟨beq_eq_false_iff_ne.1 h5, beq_eq_false_iff_ne.1 h4⟩⟩
/-- what a fused sum tells, by the kinds -/
theorem SO_of {a z mode : Int} (hm : 0 ≤ mode ∧ mode ≤ 4) (ha : 0 ≤ a ∧ a ≤ 18446744073709551615) (hz : 0 ≤ z ∧ z ≤ 18446744073709551615) : AT [a, z] mode = ((SO [a, z] mode).1, (SO [a, z] mode).2, 0) := SO_AT hm (by simp) (u2 ha hz)
theorem FT_nz {x y z mode : Int} (hm : 0 ≤ mode ∧ mode ≤ 4) (hx : 0 ≤ x ∧ x ≤ 18446744073709551615) (hy : 0 ≤ y ∧ y ≤ 18446744073709551615) (hz : 0 ≤ z ∧ z ≤ 18446744073709551615) (h : F.cls z = 5) : FT x y z mode = (9221120237041090560, false, 0) := by
  cases hb : (bc x y).2
  · rw [FT_nf hm hb (by have := mt (cls_fi (x := z)).2; rcases Classical.em (F.exq z = 2047) with k | k; exact k; exact absurd h ((cls_fi (x := z)).2 k).1), AT_comm (by omega) hz, AT_nan hm hz (by omega) h]
  · rw [FT_bc hm hb, AT_comm (bc_bd x y) hz, AT_nan hm hz (bc_bd x y) h]
theorem FT_iz {x y z mode : Int} (hm : 0 ≤ mode ∧ mode ≤ 4) (hx : fi x) (hy : fi y) (hz : 0 ≤ z ∧ z ≤ 18446744073709551615) (h : F.cls z = 4) : FT x y z mode = (z, false, 0) := by
  have hq : F.exq z = 2047 := by
    rcases Classical.em (F.exq z = 2047) with k | k
    · exact k
    · exact absurd h ((cls_fi (x := z)).2 k).2
  have e : ∀ a, fi a → AT [a, z] mode = (z, false, 0) := fun a fa => by
    rw [AT_nf hm fa hz hq]
    rcases (cls_inf hz.1 hz.2).1 h with rfl | rfl <;> decide
  cases hb : (bc x y).2
  · rw [FT_nf hm hb hq, e 0 val00.1]
  · have c1 := (fi_cls ⟨hx.1, hx.2.1⟩).1 hx
    have c2 := (fi_cls ⟨hy.1, hy.2.1⟩).1 hy
    have h3 : min (F.cls x) (F.cls y) = 1 := by
      rcases Classical.em (min (F.cls x) (F.cls y) = 1) with h3 | h3
      · exact h3
      · exfalso
        unfold bc at hb
        rw [if_neg (by omega), if_neg (by omega), if_neg h3] at hb
        cases hb
    have eb : bc x y = (sp x y, true) := by
      unfold bc
      rw [if_neg (by omega), if_neg (by omega), if_pos h3]
    rw [FT_bc hm (by rw [eb]), eb]
    refine e _ ?_
    show fi (sp x y)
    rcases sp2 x y with h | h <;> rw [h]
    · exact val00.1
    · exact val08.1
/-- by the exact value -/
theorem FT_val {x y z mode : Int} (hm : 0 ≤ mode ∧ mode ≤ 4) (hx : fi x) (hy : fi y) (hz : fi z) :
    Ok (fd x y z) ∧ S (fd x y z) = S (PD x y).d + val z ∧ (S (fd x y z) ≠ 0 → FT x y z mode = (TX (fd x y z) mode, TL (fd x y z) mode, 0)) ∧
    (S (fd x y z) = 0 → S (PD x y).d = 0 → FT x y z mode = AT [sp x y, z] mode) ∧ (S (fd x y z) = 0 → S (PD x y).d ≠ 0 → FT x y z mode = (if mode = 2 then 9223372036854775808 else 0, false, 0)) := by
  obtain ⟨K, hK⟩ : ∃ K : Nat, K = 60000 := ⟨_, rfl⟩
  have f := fd_p hx hy hz
  have p := pd_p hx hy hK
  have hx' := And.intro hx.1 hx.2.1
  have hy' := And.intro hy.1 hy.2.1
  refine ⟨f.1.ok, f.2, ?_, ?_, ?_⟩
  · intro h0
    cases hb : (bc x y).2
    · rw [FT_fi hm hb hz.2.2, if_neg (fun h => h0 (S_m'.1 h.1))]
    · have c1 := (fi_cls hx').1 hx
      have c2 := (fi_cls hy').1 hy
      have h3 : min (F.cls x) (F.cls y) = 1 := by
        rcases Classical.em (min (F.cls x) (F.cls y) = 1) with h3 | h3
        · exact h3
        · exfalso
          unfold bc at hb
          rw [if_neg (by omega), if_neg (by omega), if_neg h3] at hb
          cases hb
      have eb : bc x y = (sp x y, true) := by
        unfold bc
        rw [if_neg (by omega), if_neg (by omega), if_pos h3]
      have hp0 : S (PD x y).d = 0 := by
        apply K_inj (K := K)
        rw [p.2.2, Int.zero_mul, Int.mul_eq_zero, val0 hx, val0 hy]
        omega
      have fs : fi (sp x y) ∧ val (sp x y) = 0 := by
        rcases sp2 x y with h | h <;> rw [h]
        · exact val00
        · exact val08
      have t := tot_ok (f2 fs.1 hz) (by simp)
      have v : vs [sp x y, z] = val z := by simp [vs, fs.2]
      have ev : S (fd x y z) = vs [sp x y, z] := by rw [f.2, hp0, v]; omega
      have ed : fd x y z = tot [sp x y, z] dz := S_inj f.1.ok t.1 (by rw [t.2, ev])
      rw [FT_bc hm (by rw [eb]), eb]
      show AT [sp x y, z] mode = _
      rw [(AT_fin hm (by simp) (f2 fs.1 hz)).2 (by rw [← ev]; exact h0), ed]
  · intro h0 hp
    cases hb : (bc x y).2
    · have n := (bc_no hx' hy').1 hb
      exact absurd (S_m'.2 hp) (pd_ne hx hy n.2.2.1 n.2.2.2)
    · have c1 := (fi_cls hx').1 hx
      have c2 := (fi_cls hy').1 hy
      have h3 : min (F.cls x) (F.cls y) = 1 := by
        rcases Classical.em (min (F.cls x) (F.cls y) = 1) with h3 | h3
        · exact h3
        · exfalso
          unfold bc at hb
          rw [if_neg (by omega), if_neg (by omega), if_neg h3] at hb
          cases hb
      have eb : bc x y = (sp x y, true) := by
        unfold bc
        rw [if_neg (by omega), if_neg (by omega), if_pos h3]
      rw [FT_bc hm (by rw [eb]), eb]
  · intro h0 hp
    cases hb : (bc x y).2
    · rw [FT_fi hm hb hz.2.2]
      have k := TX0 hm f.1.ok h0
      rw [k.1, k.2]
      by_cases h2 : mode = 2
      · rw [if_pos ⟨S_m'.2 h0, h2⟩, if_pos h2]
      · rw [if_neg (fun h => h2 h.2), if_neg h2]
    · exfalso
      have n : ¬ (val x ≠ 0 ∧ val y ≠ 0) := fun h => by
        have := (bc_no hx' hy').2 ⟨hx, hy, h⟩
        rw [this] at hb; cases hb
      apply hp
      apply K_inj (K := K)
      rw [p.2.2, Int.zero_mul, Int.mul_eq_zero]
      rcases Classical.em (val x = 0) with h | h
      · exact .inl h
      · right
        rcases Classical.em (val y = 0) with h' | h'
        · exact h'
        · exact absurd ⟨h, h'⟩ n
end PC
end Go.Proofs.YtpmjeipdldnnbaaDoor
