/-
  RoundSays: the walk.
-/
import Derived.Test.YtcendlgbcnpfcaaDoorQ15
import Derived.Test.YtcendlgbcnpfcaaDoorV6
namespace Go.Proofs.YtcendlgbcnpfcaaDoor
set_option linter.unusedVariables false
set_option linter.unusedSimpArgs false
open Go.RowKit
set_option linter.unusedVariables false
set_option linter.unusedSimpArgs false
namespace VD
open Z (Nz Tz cmpv big)
open ZC DC RC QC
/-- what the law asks of the direction -/
inductive Kind (w : World) (b : Bool) (A : Option Addr) (n c : Nat) (x : Int) (d : Dy) : Prop
  | none (hn : n = 0) (hd : d.er = 0 → d.m = 0 ∧ isdir d = true ∧ b = false)
  | many (hn : 1 < n) (hd : d.er = 0 → isdir d = false)
  | other (hn : n = 1) (ad : Addr) (hA : A = some ad) (hl : ad.block < w.heap.size) (u : Int) (hu : w.cell? ad = some (.int .u32 u)) (h2 : (u == 1) = false) (hd : d.er = 0 → isdir d = false)
  | far (hn : n = 1) (ad : Addr) (hA : A = some ad) (hl : ad.block < w.heap.size) (hu : w.cell? ad = some (.int .u32 1)) (hx : (x == 0) = false) (hd : d.er = 0 → isdir d = false)
  | one (hn : n = 1) (ad : Addr) (hA : A = some ad) (hl : ad.block < w.heap.size) (hu : w.cell? ad = some (.int .u32 1)) (hx : x = 0) (hd : d.er = 0 → d.m = (if b = true then -1 else 1) ∧ isdir d = true)
theorem big_lv {l : List Int} (Ll : L.Lim l) (N : Z.Nz l) (h : 1 < l.length) : (4294967296 : Int) ≤ L.lv l := by
  have h1 := L.lv_ge Ll N (by intro h0; rw [h0] at h; simp at h)
  have h2 : (4294967296 : Int) ^ 1 ≤ 4294967296 ^ (l.length - 1) := L.pow_mono (by omega)
  have h3 : (4294967296 : Int) ^ 1 = 4294967296 := by decide
  omega
theorem kind {w : World} {b : Bool} {A : Option Addr} {n c : Nat} {x : Int} {d : Dy} (h : DV w (.agg #[.bool b, .slice A n c, .int .i64 x]) d) : Kind w b A n c x d := by
  obtain ⟨b', A', n', c', x', l, e, hs, Ll, hl, he, hg, -⟩ := h
  injection e with e
  have e1 := congrArg Array.toList e
  simp only [List.cons.injEq, Value.bool.injEq, Value.slice.injEq, Value.int.injEq, and_true, true_and] at e1
  obtain ⟨rfl, ⟨rfl, rfl, rfl⟩, rfl⟩ := e1
  have hn := hs.len_.1
  have dm : d.er = 0 → (d.m.natAbs : Int) = L.lv l ∧ b = decide (d.m < 0) ∧ x = d.x := fun h0 => by
    obtain ⟨⟨l2, hs2, L2, N2, V2⟩, hb, hx, -⟩ := hg h0
    have : l2 = l := by
      apply List.ext_getElem
      · rw [← hs2.len_.1, ← hs.len_.1]
      · intro i h1 h2
        obtain ⟨ad, c1, e1, -, -, k1⟩ := hs2.at_ i h1
        obtain ⟨ad', c1', e1', -, -, k2⟩ := hs.at_ i h2
        injection e1 with e1
        injection e1' with e1'
        obtain rfl := Option.some.inj (e1.symm.trans e1')
        rw [k1] at k2
        injection k2 with k2
        injection k2 with _ k2
        rw [List.getD_eq_getElem?_getD, List.getD_eq_getElem?_getD, List.getElem?_eq_getElem h1, List.getElem?_eq_getElem h2] at k2
        exact k2
    rw [this] at V2
    exact ⟨V2.symm, hb, hx⟩
  rcases Nat.lt_trichotomy n 1 with h1 | h1 | h1
  · have hn0 : n = 0 := by omega
    refine .none hn0 fun h0 => ?_
    have hl0 : l = [] := List.eq_nil_of_length_eq_zero (by omega)
    have := (dm h0).1
    rw [hl0] at this
    have hm : d.m = 0 := by simp [L.lv] at this; omega
    exact ⟨hm, by unfold isdir; rw [decide_eq_true_iff]; exact .inl hm, by rw [(dm h0).2.1, hm]; rfl⟩
  · obtain ⟨ad, c2, e3, hc2, hbl, hu⟩ := hs.at_ 0 (by omega)
    injection e3 with e4 e5 e6
    subst e4
    have hu2 : w.cell? ad = some (.int .u32 (l.getD 0 0)) := by simpa [Addr.add] using hu
    obtain ⟨u, hl1⟩ : ∃ u, l = [u] := by
      match l, hn, h1 with
      | [u], _, _ => exact ⟨u, rfl⟩
    subst hl1
    have hv : L.lv [u] = u := by simp [L.lv]
    rw [hv] at dm
    simp only [List.getD_cons_zero] at hu2
    have bu := Ll.at_ 0
    simp only [List.getD_cons_zero] at bu
    by_cases hu1 : u = 1
    · subst hu1
      by_cases hx : x = 0
      · refine .one h1 ad rfl hbl hu2 hx fun h0 => ?_
        obtain ⟨k1, k2, k3⟩ := dm h0
        have hm : d.m = if b = true then -1 else 1 := by
          rw [k2]
          by_cases h9 : d.m < 0
          · rw [decide_eq_true h9, if_pos rfl]; omega
          · rw [decide_eq_false h9, if_neg (by simp)]; omega
        exact ⟨hm, by unfold isdir; rw [decide_eq_true_iff]; right; exact ⟨by omega, by omega⟩⟩
      · refine .far h1 ad rfl hbl hu2 (by simp [hx]) fun h0 => ?_
        obtain ⟨k1, k2, k3⟩ := dm h0
        unfold isdir; rw [decide_eq_false_iff_not]; omega
    · refine .other h1 ad rfl hbl u hu2 (by simp [hu1]) fun h0 => ?_
      obtain ⟨k1, k2, k3⟩ := dm h0
      unfold isdir; rw [decide_eq_false_iff_not]
      have nz : u ≠ 0 := by
        rintro rfl
        have g := hg h0
        have := (gv_zero g).2 (by omega)
        omega
      omega
  · refine .many h1 fun h0 => ?_
    obtain ⟨⟨l2, hs2, L2, N2, V2⟩, -, -, -⟩ := hg h0
    unfold isdir; rw [decide_eq_false_iff_not]
    have h2 : l2.length = n := hs2.len_.1.symm
    have h3 : (4294967296 : Int) ≤ L.lv l2 := big_lv L2 N2 (by omega)
    rw [V2] at h3
    omega
end VD
end Go.Proofs.YtcendlgbcnpfcaaDoor
