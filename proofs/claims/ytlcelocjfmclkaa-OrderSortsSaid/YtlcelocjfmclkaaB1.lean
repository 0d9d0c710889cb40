/-
  The library's slices.Sort of []uint64, walked: cmp.Less; insertion sort. (What each does to the row is one of the library's plain functions on arrays.)
-/
import Derived.Test.YtlcelocjfmclkaaA4
import Derived.Shelf.SlSortCmp.NoneTotal
import Derived.CellFam
import Derived.BigCall
import Derived.BigGuard
import Derived.Deep.Draws
namespace Go.Proofs.Ytlcelocjfmclkaa
open Go.RowKit
set_option linter.unusedVariables false
set_option linter.unusedSimpArgs false
namespace BC
open Go.Sort Go.Lib
/-- the row of the world W holds d; else W is as w0 was, but for draws and new blocks -/
abbrev Sq (w0 : World) (g o : Nat) (d : Array Int) (W : World) : Prop := SW (Value.int .u64) w0 g o d W
abbrev Rq (w0 : World) (g o : Nat) (d : Array Int) : Prop := Row1 (Value.int .u64) w0 g o d
theorem Less_c (x y : Int) (w : World) : Calls Try.prog 47 #[.int .u64 x, .int .u64 y] w fun e w' => e = .returned (.bool (ltInt x y)) ∧ w' = w := by
  go_enter Try.func47, Try.ntmps47
  go_wp2_with (first | (go_at_call 39; (with_reducible refine (AC.nanU_c _ _).mono ?_); rintro e w' ⟨rfl, rfl⟩))
  go_ret
  exact ⟨rfl, rfl⟩
/-- what a row's cells hold, under a name -/
theorem Sq.fam {w0 W : World} {g o : Nat} {d0 d : Array Int} (h : Sq w0 g o d W) (R : Rq w0 g o d0) (hs : d0.size = d.size) :
    ∃ G : Nat → Int, (∀ t, G t = d[t]!) ∧ (∀ t, t < d.size → W.cell? ⟨g, o + t, none⟩ = some (.int .u64 (G t))) ∧ (∀ t, t < d.size → W.frozen? ⟨g, o + t, none⟩ = false) :=
  ⟨fun t => d[t]!, fun _ => rfl, fun t ht => SW.c1 h R hs.symm t ht, fun t ht => SW.f1 h R hs.symm t ht⟩
theorem Sq.drewN_ {w0 W : World} {g o : Nat} {d : Array Int} (h : Sq w0 g o d W) (q : Nat) : Sq w0 g o d (W.drewN q) := SW.drewN h q
theorem Sq.cells {w0 W : World} {g o n : Nat} {d0 d : Array Int} (h : Sq w0 g o d W) (R : Rq w0 g o d0) {G : Nat → Int} (hG : ∀ t, G t = d[t]!) (hs : d0.size = n ∧ d.size = n) :
    (∀ t, t < n → W.cell? ⟨g, o + t, none⟩ = some (.int .u64 (G t))) ∧ (∀ t, t < n → W.frozen? ⟨g, o + t, none⟩ = false) :=
  ⟨fun t ht => by rw [hG]; exact SW.c1 h R (by omega) t (by omega), fun t ht => SW.f1 h R (by omega) t (by omega)⟩
theorem Sq.ex_ {w0 W : World} {g o : Nat} {d0 d : Array Int} (h : Sq w0 g o d W) (R : Rq w0 g o d0) {G : Nat → Int} (hG : ∀ t, G t = d[t]!) (i j : Nat) (hi : i < d.size) (hj : j < d.size) (q : Nat) :
    Sq w0 g o (swp d i j) (((W.drewN q).setCell ⟨g, o + i, none⟩ (.int .u64 (G j))).setCell ⟨g, o + j, none⟩ (.int .u64 (G i))) := by
  rw [hG, hG]; exact SW.swap (h.drewN q) R.hblk i j hi hj
theorem Sq.exd {w0 W : World} {g o : Nat} {d0 d : Array Int} (h : Sq w0 g o d W) (R : Rq w0 g o d0) {G : Nat → Int} (hG : ∀ t, G t = d[t]!) (i j : Nat) (hi : i < d.size) (hj : j < d.size) :
    Sq w0 g o (swp d i j) (((W.setCell ⟨g, o + i, none⟩ (.int .u64 (G j))).setCell ⟨g, o + j, none⟩ (.int .u64 (G i))).drew) := by
  have := SW.drew (h.ex_ R hG i j hi hj 0)
  exact this
set_option maxRecDepth 100000 in
set_option maxHeartbeats 4000000 in
theorem insertion_c (g o c a b : Nat) (d0 d : Array Int) (w0 w : World) (R : Rq w0 g o d0) (hs : d0.size = d.size) (S : Sq w0 g o d w) (hab : a ≤ b) (hb : b ≤ d.size) (hsz : d.size < 4611686018427387904) :
    Calls Try.prog 41 #[.slice (some ⟨g, o, none⟩) d.size c, .int .i64 a, .int .i64 b] w fun e w' => e = .returned (.tuple #[]) ∧ Sq w0 g o (insertionSort ltInt d a b) w' := by
  have HR := Lib.hid R
  have S0 := Lib.hid S
  clear R S
  go_enter Try.func41, Try.ntmps41
  go_wp2
  go_loopw [6] (fun vi wr => ∃ (i : Nat) (dk : Array Int), vi = .int .i64 i ∧ a < i ∧ i ≤ b + 1 ∧ dk.size = d.size ∧ Hid (Sq w0 g o dk wr) ∧ Hid (insOuter ltInt a b i dk = insOuter ltInt a b (a + 1) d)) (fun vi _ => b + 1 - (Go.Proofs.intOf vi).toNat)
  case atStart => exact ⟨a + 1, d, by go_num, by omega, by omega, rfl, S0, rfl⟩
  case round =>
    obtain ⟨i, dk, rfl, hai, hib, hsk, SK, HO⟩ := hrel
    by_cases hlt : i < b
    · have hltz : (i : Int) < (b : Int) := by omega
      go_wp2
      go_loopw [7] (fun vj wr2 => ∃ (j : Nat) (dj : Array Int), vj = .int .i64 j ∧ a ≤ j ∧ j ≤ i ∧ dj.size = d.size ∧ Hid (Sq w0 g o dj wr2) ∧ Hid (insInner ltInt a j dj = insInner ltInt a i dk)) (fun vj _ => (Go.Proofs.intOf vj).toNat)
      case atStart => exact ⟨i, dk, rfl, by omega, Nat.le_refl _, hsk, SK, rfl⟩
      case round =>
        obtain ⟨j, dj, rfl, haj, hji, hsj, SJ, HI⟩ := hrel
        have OUT : Hid ((j ≤ a ∨ ltInt dj[j]! dj[j - 1]! = false) → insOuter ltInt a b (i + 1) dj = insOuter ltInt a b (a + 1) d) := fun h => by
          rw [← HO.out, insOuter_go _ _ _ _ _ hlt, ← HI.out, insInner_stop _ _ _ _ h]
        obtain ⟨G, hG, hc, hf⟩ := Sq.fam SJ.out HR.out (by omega)
        rw [hsj] at hc hf
        have HG := Lib.hid hG
        clear hG
        by_cases hja : a < j
        · cases hl : ltInt (G j) (G (j - 1))
          · go_wp2
            go_quiet (first | (go_at_call 47; refine Calls.quiet_of_same (Less_c _ _ _)))
            go_wp2
            go_roundw
            case rel => exact ⟨i + 1, dj, by go_num, by omega, by omega, hsj, SJ.out.drewN _, OUT.out (.inr (by rw [← HG.out, ← HG.out]; exact hl))⟩
            case measure => simp [Go.Proofs.intOf]; omega
          · have SN := Lib.hid (SJ.out.ex_ HR.out HG.out j (j - 1) (by omega) (by omega))
            go_wp2
            go_quiet (first | (go_at_call 47; refine Calls.quiet_of_same (Less_c _ _ _)))
            go_wp2
            go_region
            all_goals go_wp2
            exact ⟨⟨j - 1, _, by congr 1; omega, by omega, by omega, by rw [size_swp]; exact hsj, SN.out _, by rw [← HI.out, insInner_go ltInt a j dj hja (by rw [← HG.out, ← HG.out]; exact hl)]; exact rfl⟩, by simp [Go.Proofs.intOf]; omega⟩
        · go_wp2
          go_quiet (first | (go_at_call 47; refine Calls.quiet_of_same (Less_c _ _ _)))
          go_wp2
          go_roundw
          case rel => exact ⟨i + 1, dj, by go_num, by omega, by omega, hsj, SJ.out.drewN _, OUT.out (.inl (by omega))⟩
          case measure => simp [Go.Proofs.intOf]; omega
    · have hltz : ¬ (i : Int) < (b : Int) := by omega
      go_wp2
      go_end0
      exact ⟨rfl, by unfold insertionSort; rw [← HO.out, insOuter_stop _ _ _ _ _ hlt]; exact SK.out⟩
end BC
end Go.Proofs.Ytlcelocjfmclkaa
