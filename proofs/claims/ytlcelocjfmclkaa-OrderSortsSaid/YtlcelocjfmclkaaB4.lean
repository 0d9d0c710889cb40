/-
  The library's slices.Sort of []uint64, walked: the heap sort.
-/
import Derived.Test.YtlcelocjfmclkaaB2
namespace Go.Proofs.Ytlcelocjfmclkaa
open Go.RowKit
set_option linter.unusedVariables false
set_option linter.unusedSimpArgs false
namespace BC
open Go.Sort Go.Lib
theorem sift_size (hi F r : Nat) (d : Array Int) : (siftDown ltInt hi F r d).size = d.size := size_siftDown ltInt hi F (hi - r) r d (Nat.le_refl _)
set_option maxRecDepth 100000 in
set_option maxHeartbeats 8000000 in
theorem heap_c (g o c a b : Nat) (d0 d : Array Int) (w0 w : World) (R : Rq w0 g o d0) (hs : d0.size = d.size) (S : Sq w0 g o d w) (hab : a < b) (hb : b ≤ d.size) (hsz : d.size < 4611686018427387904) :
    Calls Try.prog 42 #[.slice (some ⟨g, o, none⟩) d.size c, .int .i64 a, .int .i64 b] w fun e w' => e = .returned (.tuple #[]) ∧ Sq w0 g o (heapSort ltInt d a b) w' := by
  have HR := Lib.hid R
  have S0 := Lib.hid S
  obtain ⟨h, hh⟩ : ∃ h, h = b - a := ⟨_, rfl⟩
  obtain ⟨q, hq⟩ : ∃ q, q = (h - 1) / 2 := ⟨_, rfl⟩
  have z1 : (b : Int) - (a : Int) = (h : Int) := by omega
  have z2 : ((h : Int) - 1).tdiv 2 = (q : Int) := by rw [Int.tdiv_eq_ediv_of_nonneg (by omega)]; omega
  have z3 : ((h : Int) - 1) / 2 = (q : Int) := by omega
  have h1 : 1 ≤ h := by omega
  have hF : a + h ≤ d.size := by omega
  have ET : Hid (heapSort ltInt d a b = heapPop ltInt a h (heapBuild ltInt h a (q + 1) d)) := by unfold Hid heapSort; rw [hh, hq, hh]
  obtain ⟨T, hT⟩ : ∃ T, T = heapBuild ltInt h a (q + 1) d := ⟨_, rfl⟩
  rw [← hT] at ET
  have HT := Lib.hid hT
  have HQ : Hid (q ≤ h ∧ q + 1 ≤ h + 1) := by unfold Hid; omega
  have v1 : IntKind.i64.wrap (h : Int) = h := by rw [IntKind.wrap_i64]; omega
  have v2 : IntKind.i64.wrap (q : Int) = q := by rw [IntKind.wrap_i64]; omega
  clear R S hh hq hT
  go_enter Try.func42, Try.ntmps42
  go_wp2
  go_loopw [9] (fun iv wr => ∃ (x : Int) (k : Nat) (dk : Array Int), iv = .int .i64 x ∧ x = (k : Int) - 1 ∧ k ≤ q + 1 ∧ dk.size = d.size ∧ Hid (Sq w0 g o dk wr) ∧ Hid (heapBuild ltInt h a k dk = T)) (fun iv _ => (Go.Proofs.intOf iv + 1).toNat)
  case atStart => exact ⟨_, q + 1, d, rfl, by omega, by omega, rfl, S0, HT.out.symm⟩
  case round =>
    obtain ⟨x, k, dk, rfl, hx, hk, hsk, SK, HO⟩ := hrel
    cases k with
    | succ m =>
      obtain rfl : x = (m : Int) := by omega
      clear hx
      have hm0 : (0 : Int) ≤ (m : Int) := by omega
      have SC := Lib.hid (sift_c g o c m h a d0 dk w0 wr HR.out (by omega) SK.out (by have := HQ.out; omega) (by omega) (by omega))
      rw [hsk] at SC
      go_wp2_with (go_at_call 60; (with_reducible refine SC.out.mono ?_); rintro e w2 ⟨rfl, S2⟩; have S2 := Lib.hid S2)
      exact ⟨⟨(m : Int) - 1, m, _, rfl, rfl, by omega, (sift_size _ _ _ _).trans hsk, S2.out, HO.out⟩, by simp [Go.Proofs.intOf] <;> omega⟩
    | zero =>
      obtain rfl : x = -1 := by omega
      clear hx
      have e0 : dk = T := HO.out
      clear HO
      subst e0
      obtain ⟨T2, hT2⟩ : ∃ T2, T2 = heapPop ltInt a h dk := ⟨_, rfl⟩
      rw [← hT2] at ET
      have HT2 := Lib.hid hT2
      clear hT2
      go_wp2
      go_loopw [10] (fun iv wr => ∃ (x : Int) (k : Nat) (dj : Array Int), iv = .int .i64 x ∧ x = (k : Int) - 1 ∧ k ≤ h ∧ dj.size = d.size ∧ Hid (Sq w0 g o dj wr) ∧ Hid (heapPop ltInt a k dj = T2)) (fun iv _ => (Go.Proofs.intOf iv + 1).toNat)
      case atStart => exact ⟨_, h, dk, rfl, rfl, Nat.le_refl _, hsk, SK, HT2.out.symm⟩
      case round =>
        obtain ⟨x, k, dj, rfl, hx, hk2, hsj, SJ, HP⟩ := hrel
        cases k with
        | succ m =>
          obtain rfl : x = (m : Int) := by omega
          clear hx
          have hm0 : (0 : Int) ≤ (m : Int) := by omega
          obtain ⟨G, hG, hc, hf⟩ := Sq.fam SJ.out HR.out (by omega)
          rw [hsj] at hc hf
          have HG := Lib.hid hG
          clear hG
          obtain ⟨p, hp⟩ : ∃ p, p = a + m := ⟨_, rfl⟩
          have z4 : (a : Int) + (m : Int) = (p : Int) := by omega
          have v3 : IntKind.i64.wrap (p : Int) = p := by rw [IntKind.wrap_i64]; omega
          have i1 : p < d.size := by omega
          have i2 : a < d.size := by omega
          have HPp := Lib.hid hp
          clear hp
          have SN := Lib.hid (SJ.out.exd HR.out HG.out a p (by omega) (by omega))
          obtain ⟨u, hu⟩ := SW.c2 SJ.out HR.out (by omega) a p (by omega) (by omega) (.int .u64 (G p))
          have SC : Hid (∀ W, Sq w0 g o (swp dj a p) W → Calls Try.prog 60 #[.slice (some ⟨g, o, none⟩) d.size c, .int .i64 0, .int .i64 m, .int .i64 a] W fun e w' => e = .returned (.tuple #[]) ∧ Sq w0 g o (siftDown ltInt m a 0 (swp dj a p)) w') := fun W hW => by
            have := sift_c g o c 0 m a d0 (swp dj a p) w0 W HR.out (by rw [size_swp]; omega) hW (by omega) (by rw [size_swp]; omega) (by rw [size_swp]; omega)
            rw [size_swp, hsj] at this
            exact this
          go_wp2
          go_region
          all_goals go_wp2_with (go_at_call 60; (with_reducible refine (SC.out _ SN.out).mono ?_); rintro e w2 ⟨rfl, S2⟩; have S2 := Lib.hid S2)
          exact ⟨⟨(m : Int) - 1, m, _, rfl, rfl, by omega, by rw [sift_size, size_swp]; exact hsj, S2.out, by rw [← HP.out, HPp.out]; exact rfl⟩, by simp [Go.Proofs.intOf] <;> omega⟩
        | zero =>
          obtain rfl : x = -1 := by omega
          clear hx
          have e1 : dj = T2 := HP.out
          clear HP
          subst e1
          go_wp2
          go_end0
          exact ⟨rfl, by rw [ET.out]; exact SJ.out⟩
end BC
end Go.Proofs.Ytlcelocjfmclkaa
