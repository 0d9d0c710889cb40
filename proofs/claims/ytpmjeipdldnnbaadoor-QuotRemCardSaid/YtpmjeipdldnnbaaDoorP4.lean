/-
  Package prod, pure: Dot.
-/
import Derived.Test.YtpmjeipdldnnbaaDoorP3
namespace Go.Proofs.YtpmjeipdldnnbaaDoor
set_option linter.unusedVariables false
set_option linter.unusedSimpArgs false
open Go.RowKit
set_option linter.unusedVariables false
set_option linter.unusedSimpArgs false
namespace PC
open L NC NK DC RC SC
/-- the sum of products, by Dyads and by values -/
def pt : List Int → Dy → Dy
  | x :: y :: t, d => pt t (DC.Add d (PD x y).d).d
  | [_], d => d
  | [], d => d
def ps : List Int → Int
  | x :: y :: t => S (PD x y).d + ps t
  | [_] => 0
  | [] => 0
/-- is there one that has no value -/
def nf (L : List Int) : Bool := L.any fun x => F.exq x == 2047
noncomputable def DT (L : List Int) (mode : Int) : Int × Bool × Int :=
  if ¬ (0 ≤ mode ∧ mode ≤ 4) then (0, false, 1)
  else if L.length % 2 ≠ 0 then (0, false, 3)
  else if 200 < L.length then (0, false, 2)
  else if nf L = true then (0, false, 4)
  else (TX (pt L dz) mode, TL (pt L dz) mode, 0)
theorem pt_append : ∀ (a b : List Int) (d : Dy), a.length % 2 = 0 → pt (a ++ b) d = pt b (pt a d)
  | [], b, d, _ => by simp [pt]
  | [x], b, d, h => by simp at h
  | x :: y :: t, b, d, h => by
    simp only [List.cons_append, pt]
    exact pt_append t b _ (by simp at h; omega)
theorem ps_append : ∀ (a b : List Int), a.length % 2 = 0 → ps (a ++ b) = ps a + ps b
  | [], b, _ => by simp [ps]
  | [x], b, h => by simp at h
  | x :: y :: t, b, h => by
    simp only [List.cons_append, ps]
    rw [ps_append t b (by simp at h; omega)]
    omega
theorem ps_rev : ∀ (a : List Int), a.length % 2 = 0 → (∀ x ∈ a, fi x) → ps a.reverse = ps a
  | [], _, _ => rfl
  | [x], h, _ => by simp at h
  | x :: y :: t, h, hf => by
    have ht : t.length % 2 = 0 := by simp at h; omega
    have e : (x :: y :: t).reverse = t.reverse ++ [y, x] := by simp
    rw [e, ps_append _ _ (by simpa using ht), ps_rev t ht fun z hz => hf z (by simp [hz])]
    have c := pd_comm (hf x (by simp)) (hf y (by simp))
    simp only [ps]
    rw [c]; omega
theorem pt_fit : ∀ (L : List Int) (d : Dy) (k : Int), (∀ x ∈ L, fi x) → FitP d k → k + L.length ≤ 256 → FitP (pt L d) (k + L.length) ∧ S (pt L d) = S d + ps L
  | [], d, k, _, h, _ => ⟨by simpa [pt] using h, by simp [pt, ps]⟩
  | [x], d, k, _, h, _ => ⟨by simpa [pt] using fitP_mono h (show k ≤ k + 1 by omega), by simp [pt, ps]⟩
  | x :: y :: t, d, k, hL, h, hk => by
    rw [List.length_cons, List.length_cons] at hk
    have p := (pd_p (hL x (by simp)) (hL y (by simp)) rfl).2.1
    obtain ⟨-, a2, a3⟩ := add_fitP h p (by omega)
    obtain ⟨b1, b2⟩ := pt_fit t (DC.Add d (PD x y).d).d (k + 1) (fun z hz => hL z (by simp [hz])) a2 (by omega)
    refine ⟨?_, ?_⟩
    · rw [List.length_cons, List.length_cons]
      exact fitP_mono b1 (by omega)
    · show S (pt t (DC.Add d (PD x y).d).d) = S d + (S (PD x y).d + ps t)
      rw [b2, a3]; omega
theorem pt_ok {L : List Int} (h : ∀ x ∈ L, fi x) (hl : ¬ 200 < L.length) : Ok (pt L dz) ∧ S (pt L dz) = ps L := by
  have := pt_fit L dz 0 h fitP_zero (by omega)
  refine ⟨this.1.ok, ?_⟩
  rw [this.2, show S dz = 0 from sc_zero.2 rfl]; omega
theorem nf_fi {L : List Int} (hu : u64s L) : nf L = false ↔ ∀ x ∈ L, fi x := by
  unfold nf
  rw [List.any_eq_false]
  constructor
  · intro h x hx; exact ⟨(hu x hx).1, (hu x hx).2, by simpa using h x hx⟩
  · intro h x hx; simpa using (h x hx).2.2
theorem DT_no {L : List Int} {mode : Int} (h : ¬ (0 ≤ mode ∧ mode ≤ 4)) : DT L mode = (0, false, 1) := by unfold DT; rw [if_pos h]
theorem DT_odd {L : List Int} {mode : Int} (hm : 0 ≤ mode ∧ mode ≤ 4) (h : L.length % 2 ≠ 0) : DT L mode = (0, false, 3) := by unfold DT; rw [if_neg (by simpa using hm), if_pos h]
theorem DT_large {L : List Int} {mode : Int} (hm : 0 ≤ mode ∧ mode ≤ 4) (h : L.length % 2 = 0) (h2 : 200 < L.length) : DT L mode = (0, false, 2) := by unfold DT; rw [if_neg (by simpa using hm), if_neg (by simpa using h), if_pos h2]
theorem DT_nf {L : List Int} {mode : Int} (hm : 0 ≤ mode ∧ mode ≤ 4) (h : L.length % 2 = 0) (h2 : ¬ 200 < L.length) (h3 : nf L = true) : DT L mode = (0, false, 4) := by unfold DT; rw [if_neg (by simpa using hm), if_neg (by simpa using h), if_neg h2, if_pos h3]
theorem DT_fi {L : List Int} {mode : Int} (hm : 0 ≤ mode ∧ mode ≤ 4) (h : L.length % 2 = 0) (h2 : ¬ 200 < L.length) (h3 : nf L = false) : DT L mode = (TX (pt L dz) mode, TL (pt L dz) mode, 0) := by unfold DT; rw [if_neg (by simpa using hm), if_neg (by simpa using h), if_neg h2, if_neg (by rw [h3]; simp)]
theorem DT_cases {L : List Int} {mode : Int} : ((DT L mode).2.2 ≠ 0 ∧ (DT L mode).1 = 0) ∨ ((DT L mode).2.2 = 0 ∧ (0 ≤ mode ∧ mode ≤ 4) ∧ L.length % 2 = 0 ∧ ¬ 200 < L.length ∧ nf L = false) := by
  by_cases hm : 0 ≤ mode ∧ mode ≤ 4
  · by_cases h : L.length % 2 = 0
    · by_cases h2 : 200 < L.length
      · left; rw [DT_large hm h h2]; decide
      · cases h3 : nf L
        · right; rw [DT_fi hm h h2 h3]; exact ⟨rfl, hm, h, h2, rfl⟩
        · left; rw [DT_nf hm h h2 h3]; decide
    · left; rw [DT_odd hm h]; decide
  · left; rw [DT_no hm]; decide
theorem nf_rev (L : List Int) : nf L.reverse = nf L := by unfold nf; simp
theorem dot_rev {L : List Int} {mode : Int} (hu : u64s L) : DT L.reverse mode = DT L mode := by
  by_cases hm : 0 ≤ mode ∧ mode ≤ 4
  · by_cases h : L.length % 2 = 0
    · by_cases h2 : 200 < L.length
      · rw [DT_large hm h h2, DT_large hm (by simpa using h) (by simpa using h2)]
      · cases h3 : nf L
        · have f := (nf_fi hu).1 h3
          have f' : ∀ x ∈ L.reverse, fi x := fun x hx => f x (by simpa using hx)
          have a := pt_ok f h2
          have b := pt_ok f' (by simpa using h2)
          have e : pt L.reverse dz = pt L dz := S_inj b.1 a.1 (by rw [a.2, b.2, ps_rev L h f])
          rw [DT_fi hm h h2 h3, DT_fi hm (by simpa using h) (by simpa using h2) (by rw [nf_rev]; exact h3), e]
        · rw [DT_nf hm h h2 h3, DT_nf hm (by simpa using h) (by simpa using h2) (by rw [nf_rev]; exact h3)]
    · rw [DT_odd hm h, DT_odd hm (by simpa using h)]
  · rw [DT_no hm, DT_no hm]
theorem DT_bd {L : List Int} (mode : Int) (hu : u64s L) : 0 ≤ (DT L mode).1 ∧ (DT L mode).1 ≤ 18446744073709551615 := by
  rcases DT_cases (L := L) (mode := mode) with ⟨-, h⟩ | ⟨-, hm, h, h2, h3⟩
  · rw [h]; omega
  · rw [DT_fi hm h h2 h3]
    have a := pt_ok ((nf_fi hu).1 h3) h2
    have := TX_bd (pt L dz) mode fun _ => a.1
    exact ⟨this.1, this.2.1⟩
theorem dot_two {x y mode : Int} (hx : 0 ≤ x ∧ x ≤ 18446744073709551615) (hy : 0 ≤ y ∧ y ≤ 18446744073709551615) (h : (DT [x, y] mode).2.2 = 0) :
    ∃ p a b, MT x y mode = (p, b, 0) ∧ DT [x, y] mode = (a, b, 0) ∧ (p = a ∨ (F.cls p = 1 ∧ F.cls a = 1)) := by
  rcases DT_cases (L := [x, y]) (mode := mode) with ⟨h1, -⟩ | ⟨-, hm, h1, h2, h3⟩
  · exact absurd h h1
  · have f := (nf_fi (u2 hx hy)).1 h3
    have fx := f x (by simp)
    have fy := f y (by simp)
    obtain ⟨K, hK⟩ : ∃ K : Nat, K = 60000 := ⟨_, rfl⟩
    have p := pd_p fx fy hK
    have a := pt_ok f h2
    have e : pt [x, y] dz = (PD x y).d := S_inj a.1 p.2.1.ok (by rw [a.2]; simp [ps])
    rw [DT_fi hm h1 h2 h3, e]
    cases hb : (bc x y).2
    · rw [MT_fi hm hb]; exact ⟨_, _, _, rfl, rfl, .inl rfl⟩
    · rw [MT_bc hm hb]
      have c1 := (fi_cls hx).1 fx
      have c2 := (fi_cls hy).1 fy
      have h3 : min (F.cls x) (F.cls y) = 1 := by
        rcases Classical.em (min (F.cls x) (F.cls y) = 1) with h3 | h3
        · exact h3
        · exfalso
          unfold bc at hb
          rw [if_neg (by omega), if_neg (by omega), if_neg h3] at hb
          cases hb
      have eb : bc x y = (sp x y, true) := by
        unfold bc
        rw [if_neg (by omega), if_neg (by omega), if_pos h3]
      have h0 : S (PD x y).d = 0 := by
        apply K_inj (K := K)
        rw [p.2.2, Int.zero_mul, Int.mul_eq_zero, val0 fx, val0 fy]
        omega
      have k := TX0 hm p.2.1.ok h0
      rw [eb, k.1, k.2]
      refine ⟨_, _, _, rfl, rfl, .inr ⟨?_, by decide⟩⟩
      rcases sp2 x y with h | h <;> rw [h] <;> decide
end PC
end Go.Proofs.YtpmjeipdldnnbaaDoor
