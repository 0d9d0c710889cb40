/-
  Plain mathematics: one more put into a list, in order of the keys, the list gone through from the left; a list so made is the sorted one, and there is but one.
-/
import Derived.Test.YtlcelocjfmclkaaA1
namespace Go.Proofs.Ytlcelocjfmclkaa.A
open Go
set_option linter.unusedVariables false
set_option linter.unusedSimpArgs false
/-- what Inserted carries along: the list so far, and whether x is in it -/
def stp (x : Int) (s : List Int × Bool) (y : Int) : List Int × Bool := if s.2 = false ∧ key x < key y then (s.1 ++ [x] ++ [y], true) else (s.1 ++ [y], s.2)
def run (x : Int) (L : List Int) : List Int × Bool := L.foldl (stp x) ([], false)
def ins (L : List Int) (x : Int) : List Int := if (run x L).2 then (run x L).1 else (run x L).1 ++ [x]
theorem run_snoc (x : Int) (L : List Int) (k : Nat) (hk : k < L.length) (y : Int) (hy : L.getD k 0 = y) : run x (L.take (k + 1)) = stp x (run x (L.take k)) y := by
  unfold run
  rw [List.take_succ_eq_append_getElem hk, List.foldl_append]
  rw [List.getD_eq_getElem?_getD, List.getElem?_eq_getElem hk] at hy
  simp only [Option.getD_some] at hy
  rw [hy]; rfl
def Srt (L : List Int) : Prop := L.Pairwise fun a b => key a ≤ key b
/-- what holds along the way -/
theorem run_inv (x : Int) : ∀ (R P : List Int) (b : Bool) (o : List Int), Srt (P ++ R) → (b = false → o = P ∧ ∀ y ∈ P, key y ≤ key x) → (b = true → Srt o ∧ o.Perm (x :: P) ∧ ∀ y ∈ R, (∀ z ∈ o, key z ≤ key y)) →
    ((R.foldl (stp x) (o, b)).2 = false → (R.foldl (stp x) (o, b)).1 = P ++ R ∧ ∀ y ∈ P ++ R, key y ≤ key x) ∧ ((R.foldl (stp x) (o, b)).2 = true → Srt (R.foldl (stp x) (o, b)).1 ∧ (R.foldl (stp x) (o, b)).1.Perm (x :: (P ++ R)))
  | [], P, b, o, hs, h0, h1 => by
    rw [List.append_nil]
    exact ⟨fun h => h0 h, fun h => ⟨(h1 h).1, (h1 h).2.1⟩⟩
  | y :: R, P, b, o, hs, h0, h1 => by
    have e : P ++ y :: R = (P ++ [y]) ++ R := by simp
    rw [e] at hs ⊢
    have hs' := hs
    unfold Srt at hs'
    rw [List.pairwise_append] at hs'
    obtain ⟨s1, s2, s3⟩ := hs'
    have hPy : ∀ z ∈ P, key z ≤ key y := by
      rw [List.pairwise_append] at s1
      exact fun z hz => s1.2.2 z hz y (by simp)
    have hyR : ∀ z ∈ R, key y ≤ key z := fun z hz => s3 y (by simp) z hz
    rw [List.foldl_cons]
    cases b
    · obtain ⟨rfl, hP⟩ := h0 rfl
      by_cases hk : key x < key y
      · have es : stp x (o, false) y = (o ++ [x] ++ [y], true) := by unfold stp; rw [if_pos ⟨rfl, hk⟩]
        rw [es]
        refine run_inv x R (o ++ [y]) true _ hs (fun h => by cases h) (fun _ => ⟨?_, ?_, ?_⟩)
        · unfold Srt
          rw [List.pairwise_append, List.pairwise_append]
          rw [List.pairwise_append] at s1
          refine ⟨⟨s1.1, by simp, fun a ha c hc => ?_⟩, by simp, fun a ha c hc => ?_⟩
          · simp only [List.mem_singleton] at hc; subst hc; exact hP a ha
          · simp only [List.mem_singleton] at hc; subst hc
            rw [List.mem_append, List.mem_singleton] at ha
            rcases ha with ha | rfl
            · exact hPy a ha
            · omega
        · rw [List.append_assoc]
          refine List.perm_middle.trans ?_
          exact List.Perm.refl _
        · intro u hu z hz
          have := hyR u hu
          rw [List.mem_append, List.mem_append, List.mem_singleton, List.mem_singleton] at hz
          rcases hz with (hz | rfl) | rfl
          · have := hPy z hz; omega
          · omega
          · omega
      · have es : stp x (o, false) y = (o ++ [y], false) := by unfold stp; rw [if_neg (fun h => hk h.2)]
        rw [es]
        refine run_inv x R (o ++ [y]) false _ hs (fun _ => ⟨rfl, fun z hz => ?_⟩) (fun h => by cases h)
        rw [List.mem_append, List.mem_singleton] at hz
        rcases hz with hz | rfl
        · exact hP z hz
        · omega
    · obtain ⟨q1, q2, q3⟩ := h1 rfl
      have es : stp x (o, true) y = (o ++ [y], true) := by unfold stp; rw [if_neg (fun h => by cases h.1)]
      rw [es]
      refine run_inv x R (P ++ [y]) true _ hs (fun h => by cases h) (fun _ => ⟨?_, ?_, ?_⟩)
      · unfold Srt
        rw [List.pairwise_append]
        refine ⟨q1, by simp, fun a ha c hc => ?_⟩
        simp only [List.mem_singleton] at hc; subst hc
        exact q3 c (by simp) a ha
      · have := q2.append_right [y]
        rwa [List.cons_append] at this
      · intro u hu z hz
        rw [List.mem_append, List.mem_singleton] at hz
        rcases hz with hz | rfl
        · exact q3 u (by simp [hu]) z hz
        · exact hyR u hu
theorem ins_ok {L : List Int} (hs : Srt L) (x : Int) : Srt (ins L x) ∧ (ins L x).Perm (x :: L) := by
  have h := run_inv x L [] false [] (by simpa using hs) (fun _ => ⟨rfl, by simp⟩) (fun h => by cases h)
  rw [List.nil_append] at h
  unfold ins run
  cases hb : (L.foldl (stp x) ([], false)).2
  · obtain ⟨e, hx⟩ := h.1 hb
    simp only [Bool.false_eq_true, if_false]
    rw [e]
    refine ⟨?_, by rw [← List.singleton_append]; exact List.perm_append_comm⟩
    unfold Srt
    rw [List.pairwise_append]
    refine ⟨hs, by simp, fun a ha c hc => ?_⟩
    simp only [List.mem_singleton] at hc; subst hc
    exact hx a ha
  · simp only [if_true]
    exact h.2 hb
def insAll (L : List Int) : List Int := L.foldl ins []
theorem insAll_snoc (L : List Int) (k : Nat) (hk : k < L.length) (y : Int) (hy : L.getD k 0 = y) : insAll (L.take (k + 1)) = ins (insAll (L.take k)) y := by
  unfold insAll
  rw [List.take_succ_eq_append_getElem hk, List.foldl_append]
  rw [List.getD_eq_getElem?_getD, List.getElem?_eq_getElem hk] at hy
  simp only [Option.getD_some] at hy
  rw [hy]; rfl
theorem insAll_from : ∀ (L S : List Int), Srt S → Srt (L.foldl ins S) ∧ (L.foldl ins S).Perm (L ++ S)
  | [], S, h => ⟨h, List.Perm.refl _⟩
  | x :: L, S, h => by
    have h1 := ins_ok h x
    have h2 := insAll_from L (ins S x) h1.1
    rw [List.foldl_cons]
    refine ⟨h2.1, h2.2.trans ?_⟩
    refine ((List.Perm.refl L).append h1.2).trans ?_
    rw [List.cons_append]
    exact List.perm_middle
theorem insAll_ok (L : List Int) : Srt (insAll L) ∧ (insAll L).Perm L := by
  have := insAll_from L [] (by unfold Srt; simp)
  rw [List.append_nil] at this
  exact this
/-- of two sorted ones with the same numbers both are one -/
theorem one_sorted : ∀ (S T : List Int), S.Perm T → Srt S → Srt T → (∀ x ∈ S, 0 ≤ x ∧ x ≤ 18446744073709551615) → S = T
  | [], T, h, _, _, _ => (List.nil_perm.1 h).symm
  | x :: S, [], h, _, _, _ => by exact absurd h.symm (by rw [List.nil_perm]; simp)
  | x :: S, y :: T, h, hS, hT, hu => by
    unfold Srt at hS hT
    rw [List.pairwise_cons] at hS hT
    have hy : y ∈ x :: S := h.mem_iff.2 (by simp)
    have hx : x ∈ y :: T := h.mem_iff.1 (by simp)
    have h1 : key x ≤ key y := by
      rw [List.mem_cons] at hy
      rcases hy with rfl | hy
      · omega
      · exact hS.1 y hy
    have h2 : key y ≤ key x := by
      rw [List.mem_cons] at hx
      rcases hx with rfl | hx
      · omega
      · exact hT.1 x hx
    have bx := hu x (by simp)
    have by_ := hu y hy
    obtain rfl := key_inj bx.1 bx.2 by_.1 by_.2 (by omega)
    rw [one_sorted S T (List.Perm.cons_inv h) hS.2 hT.2 (fun z hz => hu z (by simp [hz]))]
theorem mem_u64 {S T : List Int} (h : S.Perm T) (hu : ∀ x ∈ T, 0 ≤ x ∧ x ≤ 18446744073709551615) : ∀ x ∈ S, 0 ≤ x ∧ x ≤ 18446744073709551615 := fun x hx => hu x (h.mem_iff.1 hx)
end Go.Proofs.Ytlcelocjfmclkaa.A
