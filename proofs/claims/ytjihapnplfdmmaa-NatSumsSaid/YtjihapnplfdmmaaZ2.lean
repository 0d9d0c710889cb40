/-
  The reference's whole numbers: the other sign, without a sign, the sign, a number.
-/
import Derived.Test.YtjihapnplfdmmaaZ1
namespace Go.Proofs.Ytjihapnplfdmmaa
open Go.RowKit
set_option linter.unusedVariables false
theorem bcell {W w1 : World} (hb : Below W.heap.size W w1) : (∀ b o, b < W.heap.size → w1.cell? ⟨b, o, none⟩ = W.cell? ⟨b, o, none⟩) ∧ (∀ b o, b < W.heap.size → w1.frozen? ⟨b, o, none⟩ = W.frozen? ⟨b, o, none⟩) :=
  ⟨fun b o h => hb.cell (p := ⟨b, o, none⟩) h, fun b o h => hb.frozen (p := ⟨b, o, none⟩) h⟩
namespace ZC
open Z
theorem RetZ0.cell {w w1 : World} {z : Int} {B : Nat} {A A0 : Option Addr} {n n0 c c0 : Nat} {b b0 : Bool}
    (hv : ZL w1 b A n c z) (hB : w.heap.size ≤ B)
    (h0 : w1.cell? ⟨B, 0, none⟩ = some (.bool b0)) (h1 : w1.cell? ⟨B, 1, none⟩ = some (.slice A0 n0 c0)) (hb : Below w.heap.size w w1) :
    RetZ0 w z (.returned (.agg #[.bool b, .slice A n c])) ((w1.setCell ⟨B, 0, none⟩ (.bool b)).setCell ⟨B, 1, none⟩ (.slice A n c)) :=
  ⟨_, rfl, ((hv.setCell h0 (fun z h => by cases h) _).setCell (p := ⟨B, 1, none⟩) (u := .slice A0 n0 c0) (by rw [World.cell?_setCell_other _ _ _ _ (by simp)]; exact h1) (fun z h => by cases h) _).v, (hb.setCell hB _).setCell hB _⟩
theorem RetZ.cell {w w1 : World} {z : Int} {B B0 : Nat} {A A0 : Option Addr} {n n0 c c0 : Nat} {b b0 : Bool}
    (hv : ZLF w1 B0 b A n c z) (hB0 : w.heap.size ≤ B0) (hB : w.heap.size ≤ B)
    (h0 : w1.cell? ⟨B, 0, none⟩ = some (.bool b0)) (h1 : w1.cell? ⟨B, 1, none⟩ = some (.slice A0 n0 c0)) (hb : Below w.heap.size w w1) :
    RetZ w z (.returned (.agg #[.bool b, .slice A n c])) ((w1.setCell ⟨B, 0, none⟩ (.bool b)).setCell ⟨B, 1, none⟩ (.slice A n c)) :=
  ⟨_, rfl, ⟨b, A, n, c, rfl, ((hv.1.setCell h0 (fun z h => by cases h) _).setCell (p := ⟨B, 1, none⟩) (u := .slice A0 n0 c0) (by rw [World.cell?_setCell_other _ _ _ _ (by simp)]; exact h1) (fun z h => by cases h) _), hv.2.mono hB0⟩, (hb.setCell hB _).setCell hB _⟩
theorem ZNeg_c (va : Value) (a : Int) (w : World) (ha : ZV w va a) (bA : a.natAbs < big 1000000) :
    Calls Try.prog 31 #[va] w (RetZ0 w (-a)) := by
  obtain ⟨b, A, n, c, rfl, ha⟩ := ha
  have lL := ha.len bA
  have ha' := (ha.alloc (.cells #[.bool b, .slice A n c] 34)).alloc (.cells #[.bool false, .slice none 0 0] 34)
  obtain ⟨hb, L, hn, hs, dL, nL, vL⟩ := ha'
  have tr := trim_c (!b) A n c L _ hs dL (by omega)
  rw [show sg (!b) (val L) = -a by rw [vL, hb]; by_cases h : a < 0 <;> simp [sg, h] <;> omega] at tr
  have TR := Lib.hid tr
  clear hs dL nL lL bA hn vL tr hb ha
  go_enter Try.func31, Try.ntmps31
  go_wp2_with (first | (go_at_call 29; (with_reducible refine (TR.out).mono ?_); rintro e w1 ⟨b1, n1, rfl, hm1, hv1, hb1⟩ ; obtain ⟨hc1, hf1⟩ := bcell hb1 ; have hz1 := hb1.size))
  have bw : Below w.heap.size w w1 := (((Below.refl _ _).alloc (Nat.le_refl _) _).alloc (by simp) _).trans (hb1.mono (by simp; omega))
  have c0 : w1.cell? ⟨w.heap.size + 1, 0, none⟩ = some (.bool false) := by rw [hb1.cell (by simp)]; simp [go_sem]
  have c1' : w1.cell? ⟨w.heap.size + 1, 1, none⟩ = some (.slice none 0 0) := by rw [hb1.cell (by simp)]; simp [go_sem]
  exact bodyPost_ret (v := .agg #[.bool b1, .slice A n1 c]) (by simp [results, Try.results31, go_sem, c0, c1']) rfl (RetZ0.cell hv1 (by omega) c0 c1' bw)
theorem ZAbs_c (va : Value) (a : Int) (w : World) (ha : ZV w va a) :
    Calls Try.prog 32 #[va] w (RetZ0 w (a.natAbs : Int)) := by
  obtain ⟨b, A, n, c, rfl, ha⟩ := ha
  have hb : ZL w false A n c (a.natAbs : Int) := ⟨by simp, by obtain ⟨_, L, h⟩ := ha; exact ⟨L, by simpa using h⟩⟩
  have HS := ((hb.alloc (.cells #[.bool b, .slice A n c] 34)).alloc (.cells #[.bool false, .slice A n c] 34))
  go_enter Try.func32, Try.ntmps32
  go_wp2
  exact bodyPost_ret (v := .agg #[.bool false, .slice A n c]) (by simp [results, Try.results32, go_sem]) rfl
    ⟨_, rfl, HS.v, (((Below.refl _ _).alloc (Nat.le_refl _) _).alloc (by simp) _)⟩
end ZC
end Go.Proofs.Ytjihapnplfdmmaa
