/-
  One round of the library's pdqsort, on plain arrays: what each step makes, and how the rest goes on. (Out of the library's own facts on its plain twin.)
-/
import Derived.Test.YtlcelocjfmclkaaB1
namespace Go.Proofs.Ytlcelocjfmclkaa
open Go.RowKit
set_option linter.unusedVariables false
set_option linter.unusedSimpArgs false
namespace BC
open Go.Sort Go.Lib
/-- the first half of a round: up to the partial insertion sort -/
structure HalfR (dk : Array Int) (a b lim : Nat) (wb wp : Bool) (d1 : Array Int) (lm cp : Nat) (ch : Hint) (d2 : Array Int) (pv : Nat) (ht : Hint) (d3 : Array Int) (pt : Bool) : Prop where
  br0 : wb = false → d1 = breakPatterns dk a b ∧ lm = lim - 1
  br1 : wb = true → d1 = dk ∧ lm = lim
  cho : choosePivot ltInt d1 a b = (cp, ch)
  dec : ch = .decreasing → d2 = reverseRange d1 a b ∧ pv = (b - 1) - (cp - a) ∧ ht = .increasing
  inc : ch ≠ .decreasing → d2 = d1 ∧ pv = cp ∧ ht = ch
  pi1 : (wb && wp && decide (ht = .increasing)) = true → partialInsertionSort ltInt d2 a b = (d3, pt)
  pi0 : (wb && wp && decide (ht = .increasing)) = false → d3 = d2 ∧ pt = false
  s1 : d1.size = dk.size
  s2 : d2.size = dk.size
  s3 : d3.size = dk.size
  cb : a ≤ cp ∧ cp < b
  pb : a ≤ pv ∧ pv < b
  lb : lm ≤ lim
  bel : Go.Sort.Below ltInt a b d3
/-- the second half: how it goes on -/
structure RestR (dk : Array Int) (a b lim : Nat) (wb wp : Bool) (lm pv : Nat) (d3 : Array Int) (pt : Bool) : Prop where
  done : pt = true → pdq ltInt dk a b lim wb wp = d3
  eq : pt = false → (0 < a ∧ ltInt d3[a - 1]! d3[pv]! = false) → ∃ mid d4, partitionEqual ltInt d3 a b pv = (mid, d4) ∧ a < mid ∧ mid ≤ b ∧ d4.size = dk.size ∧ Go.Sort.Below ltInt mid b d4 ∧
    pdq ltInt dk a b lim wb wp = pdq ltInt d4 mid b lm wb wp
  part : pt = false → ¬ (0 < a ∧ ltInt d3[a - 1]! d3[pv]! = false) → ∃ mid ap d4, partition ltInt d3 a b pv = (mid, ap, d4) ∧ a ≤ mid ∧ mid < b ∧ d4.size = dk.size ∧
    (mid - a < b - mid → ∃ d5, pdq ltInt d4 a mid lm true true = d5 ∧ Go.Sort.Below ltInt a mid d4 ∧ d5.size = dk.size ∧ Go.Sort.Below ltInt (mid + 1) b d5 ∧
      pdq ltInt dk a b lim wb wp = pdq ltInt d5 (mid + 1) b lm (decide (mid - a ≥ (b - a) / 8)) ap) ∧
    (¬ mid - a < b - mid → ∃ d5, pdq ltInt d4 (mid + 1) b lm true true = d5 ∧ Go.Sort.Below ltInt (mid + 1) b d4 ∧ d5.size = dk.size ∧ Go.Sort.Below ltInt a mid d5 ∧
      pdq ltInt dk a b lim wb wp = pdq ltInt d5 a mid lm (decide (b - mid ≥ (b - a) / 8)) ap)
theorem round_all (dk : Array Int) (a b lim : Nat) (wb wp : Bool) (h12 : ¬ b - a ≤ 12) (hl : ¬ lim = 0) (hb : b ≤ dk.size) (hB : Go.Sort.Below ltInt a b dk) :
    ∃ d1 lm cp ch d2 pv ht d3 pt, HalfR dk a b lim wb wp d1 lm cp ch d2 pv ht d3 pt ∧ RestR dk a b lim wb wp lm pv d3 pt := by
  have hO : SWO ltInt := swo_ltInt
  obtain ⟨s1, B1, hc1, s2, B2, hpv, s3, B3⟩ := rd_facts (lt := ltInt) (limit := lim) (wb := wb) (wp := wp) hO partialInsertionSort_holds reverseRange_holds (show a < b by omega) hb hB
  refine ⟨(rd ltInt dk a b lim wb wp).d1, (rd ltInt dk a b lim wb wp).lim, (rd ltInt dk a b lim wb wp).c.1, (rd ltInt dk a b lim wb wp).c.2, (rd ltInt dk a b lim wb wp).d2, (rd ltInt dk a b lim wb wp).pivot, (rd ltInt dk a b lim wb wp).hint, (rd ltInt dk a b lim wb wp).pi.1, (rd ltInt dk a b lim wb wp).pi.2, ?_, ?_⟩
  · exact {
      br0 := fun h => by subst h; exact rd_false
      br1 := fun h => by subst h; exact rd_true
      cho := rfl
      dec := fun h => rd_dec h
      inc := fun h => rd_not h
      pi1 := fun h => (rd_pi_yes h).symm
      pi0 := fun h => by rw [rd_pi_no h]; exact ⟨rfl, rfl⟩
      s1 := s1
      s2 := s2
      s3 := s3
      cb := hc1
      pb := hpv
      lb := rd_lim_le
      bel := B3 }
  · have hb3 : b ≤ (rd ltInt dk a b lim wb wp).pi.1.size := by rw [s3]; exact hb
    refine ⟨fun h => pdq_done h12 hl h, fun h hc => ?_, fun h hc => ?_⟩
    · obtain ⟨mid, d4, hx⟩ : ∃ m x, partitionEqual ltInt (rd ltInt dk a b lim wb wp).pi.1 a b (rd ltInt dk a b lim wb wp).pivot = (m, x) := ⟨_, _, rfl⟩
      obtain ⟨g1, g2, g3, g4, _⟩ := round_eq hO (partitionEqual_holds ltInt) hc.1 hpv.1 hpv.2 hb3 B3 hc.2 hx
      refine ⟨mid, d4, hx, g1, g2, g3.trans s3, g4, ?_⟩
      have := pdq_eq h12 hl h (by simp only [Bool.and_eq_true, decide_eq_true_eq, Bool.not_eq_true']; exact hc) (by rw [hx]; exact ⟨g1, g2⟩)
      rw [hx] at this
      exact this
    · obtain ⟨mid, ap, d4, hx⟩ : ∃ m p x, partition ltInt (rd ltInt dk a b lim wb wp).pi.1 a b (rd ltInt dk a b lim wb wp).pivot = (m, p, x) := ⟨_, _, _, rfl⟩
      obtain ⟨g1, g2, g3, g4, g5, g6, g7⟩ := round_part hO (partition_holds ltInt) hpv.1 hpv.2 hb3 B3 hx
      have hcf : (decide (a > 0) && !ltInt (rd ltInt dk a b lim wb wp).pi.1[a - 1]! (rd ltInt dk a b lim wb wp).pi.1[(rd ltInt dk a b lim wb wp).pivot]!) = false := by
        rw [← Bool.not_eq_true]; simp only [Bool.and_eq_true, decide_eq_true_eq, Bool.not_eq_true']; exact hc
      have s4 : d4.size = dk.size := g3.trans s3
      refine ⟨mid, ap, d4, hx, g1, g2, s4, fun hlt => ?_, fun hlt => ?_⟩
      · obtain ⟨p1, p2⟩ := pdq_sorts ltInt hO d4 a mid (rd ltInt dk a b lim wb wp).lim true true g1 (by omega) g4
        refine ⟨_, rfl, g4, p1.1.trans s4, (g6 _ p1 p2).1, ?_⟩
        have := pdq_left h12 hl h hcf (by rw [hx]; exact ⟨g1, g2⟩) (by rw [hx]; exact hlt)
        rw [hx] at this
        exact this
      · obtain ⟨p1, p2⟩ := pdq_sorts ltInt hO d4 (mid + 1) b (rd ltInt dk a b lim wb wp).lim true true (by omega) (by omega) g5
        refine ⟨_, rfl, g5, p1.1.trans s4, (g7 _ p1 p2).1, ?_⟩
        have := pdq_right h12 hl h hcf (by rw [hx]; exact ⟨g1, g2⟩) (by rw [hx]; exact hlt)
        rw [hx] at this
        exact this
theorem pdq_size (d : Array Int) (a b lim : Nat) (wb wp : Bool) (hab : a ≤ b) (hb : b ≤ d.size) (hB : Go.Sort.Below ltInt a b d) : (pdq ltInt d a b lim wb wp).size = d.size := (pdq_sorts ltInt swo_ltInt d a b lim wb wp hab hb hB).1.1
end BC
end Go.Proofs.Ytlcelocjfmclkaa
