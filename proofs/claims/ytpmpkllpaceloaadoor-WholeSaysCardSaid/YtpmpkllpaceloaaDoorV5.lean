/-
  The reference: are Dyads right?
-/
import Derived.Test.YtpmpkllpaceloaaDoorC7
import Derived.Test.YtpmpkllpaceloaaDoorC9
namespace Go.Proofs.YtpmpkllpaceloaaDoor
set_option linter.unusedVariables false
set_option linter.unusedSimpArgs false
open Go.RowKit
set_option linter.unusedVariables false
set_option linter.unusedSimpArgs false
namespace VD
open L NC NK DC
/-- what DyadRight asks, case by case; what it finds -/
inductive Ask (w : World) (b : Bool) (A : Option Addr) (n c : Nat) (x : Int) (er : Int) : Prop
  | far (h : ¬ (n ≤ 400 ∧ -10000 ≤ x ∧ x ≤ 10000)) (e : er = 2)
  | zneg (h : n ≤ 400 ∧ -10000 ≤ x ∧ x ≤ 10000) (hn : n = 0) (hb : b = true) (e : er = 3)
  | zexp (h : n ≤ 400 ∧ -10000 ≤ x ∧ x ≤ 10000) (hn : n = 0) (hb : b = false) (hx : (x != 0) = true) (e : er = 3)
  | zero (h : n ≤ 400 ∧ -10000 ≤ x ∧ x ≤ 10000) (hn : n = 0) (hb : b = false) (hx : x = 0) (e : er = 0)
  | even (h : n ≤ 400 ∧ -10000 ≤ x ∧ x ≤ 10000) (i : Nat) (hn : n = i + 1) (ad : Addr) (hA : A = some ad) (hl : ad.block < w.heap.size) (u : Int) (hu : w.cell? ad = some (.int .u32 u)) (h2 : (u.tmod 2 == 0) = true) (e : er = 3)
  | nought (h : n ≤ 400 ∧ -10000 ≤ x ∧ x ≤ 10000) (i : Nat) (hn : n = i + 1) (ad : Addr) (hA : A = some ad) (hl : ad.block < w.heap.size) (u v : Int) (hu : w.cell? ad = some (.int .u32 u)) (h2 : (u.tmod 2 == 0) = false) (hv : w.cell? (ad.add i) = some (.int .u32 v)) (h3 : (v == 0) = true) (e : er = 3)
  | good (h : n ≤ 400 ∧ -10000 ≤ x ∧ x ≤ 10000) (i : Nat) (hn : n = i + 1) (ad : Addr) (hA : A = some ad) (hl : ad.block < w.heap.size) (u v : Int) (hu : w.cell? ad = some (.int .u32 u)) (h2 : (u.tmod 2 == 0) = false) (hv : w.cell? (ad.add i) = some (.int .u32 v)) (h3 : (v == 0) = false) (e : er = 0)
theorem ask {w : World} {b : Bool} {A : Option Addr} {n c : Nat} {x : Int} {d : Dy} (h : DV w (.agg #[.bool b, .slice A n c, .int .i64 x]) d) : Ask w b A n c x d.er := by
  obtain ⟨b', A', n', c', x', l, e, hs, Ll, hl, he, -, -⟩ := h
  injection e with e
  have e1 := congrArg Array.toList e
  simp only [List.cons.injEq, Value.bool.injEq, Value.slice.injEq, Value.int.injEq, and_true, true_and] at e1
  obtain ⟨rfl, ⟨rfl, rfl, rfl⟩, rfl⟩ := e1
  have hn := hs.len_.1
  rw [he]
  unfold dchk
  by_cases h1 : 400 < l.length ∨ ¬ (-10000 ≤ x ∧ x ≤ 10000)
  · rw [if_pos h1]; exact .far (by omega) rfl
  · rw [if_neg h1]
    have hb : n ≤ 400 ∧ -10000 ≤ x ∧ x ≤ 10000 := by omega
    by_cases h0 : l = []
    · have hn0 : n = 0 := by rw [hn, h0]; rfl
      have e2 : nrm b l x = (!b && decide (x = 0)) := by unfold nrm; rw [if_pos h0]
      rw [e2]
      cases b
      · by_cases hx : x = 0
        · rw [if_pos (by simp [hx])]; exact .zero hb hn0 rfl hx rfl
        · rw [if_neg (by simp [hx])]; exact .zexp hb hn0 rfl (by simp [hx]) rfl
      · rw [if_neg (by simp)]; exact .zneg hb hn0 rfl rfl
    · have hp := List.length_pos_iff.2 h0
      obtain ⟨i, hi⟩ : ∃ i, n = i + 1 := ⟨n - 1, by omega⟩
      obtain ⟨ad, c2, e3, hc2, hbl, hu⟩ := hs.at_ 0 hp
      injection e3 with e4 e5 e6
      subst e4
      obtain ⟨ad', c3, e7, hc3, hbl', hv⟩ := hs.at_ i (by omega)
      injection e7 with e8 e9 e10
      obtain rfl := Option.some.inj e8
      have hu2 : w.cell? ad = some (.int .u32 (l.getD 0 0)) := by simpa [Addr.add] using hu
      have b0 := Ll.at_ 0
      have e2 : nrm b l x = (decide (chk l = 0) && decide (lv l % 2 = 1)) := by unfold nrm; rw [if_neg h0]
      have hlast : l.getLast? = some (l.getD i 0) := by
        rw [List.getLast?_eq_getElem?, List.getD_eq_getElem?_getD, show l.length - 1 = i by omega, List.getElem?_eq_getElem (by omega)]; rfl
      rw [e2, lv_odd]
      have hc : chk l = 0 ↔ l.getD i 0 ≠ 0 := by
        unfold chk
        rw [if_neg (by omega), hlast]
        generalize l.getD i 0 = v
        by_cases h9 : v = 0
        · rw [if_pos (by rw [h9])]; simp [h9]
        · rw [if_neg (by simpa using h9)]; simp [h9]
      clear e2 hlast hu
      generalize l.getD 0 0 = u at *
      generalize l.getD i 0 = v at *
      have t2 : u.tmod 2 = u % 2 := Int.tmod_eq_emod_of_nonneg b0.1
      by_cases ho : u % 2 = 1
      · have t3 : (u.tmod 2 == 0) = false := by rw [t2, ho]; rfl
        by_cases h9 : v = 0
        · rw [if_neg (by rw [decide_eq_false fun h => hc.1 h h9]; simp)]
          exact .nought hb i hi ad rfl hbl _ _ hu2 t3 hv (by simp [h9]) rfl
        · rw [if_pos (by rw [decide_eq_true (hc.2 h9), decide_eq_true ho]; rfl)]
          exact .good hb i hi ad rfl hbl _ _ hu2 t3 hv (by simp [h9]) rfl
      · rw [if_neg (by rw [decide_eq_false ho]; simp)]
        exact .even hb i hi ad rfl hbl _ hu2 (by rw [t2, beq_iff_eq]; omega) rfl
end VD
end Go.Proofs.YtpmpkllpaceloaaDoor
