/-
  The library's slices.Sort of []uint64, walked: reverseRange; the median of three, the choice of a pivot.
-/
import Derived.Test.YtlcelocjfmclkaaB1
namespace Go.Proofs.Ytlcelocjfmclkaa
open Go.RowKit
set_option linter.unusedVariables false
set_option linter.unusedSimpArgs false
namespace BC
open Go.Sort Go.Lib
theorem revLoop_go {i j : Nat} (d : Array Int) (h : i < j) : reverseLoop i j d = reverseLoop (i + 1) (j - 1) (swp d i j) := by rw [reverseLoop, if_pos h]
theorem revLoop_stop {i j : Nat} (d : Array Int) (h : ¬ i < j) : reverseLoop i j d = d := by rw [reverseLoop, if_neg h]
set_option maxRecDepth 100000 in
set_option maxHeartbeats 8000000 in
theorem reverse_c (g o c a b : Nat) (d0 d : Array Int) (w0 w : World) (R : Rq w0 g o d0) (hs : d0.size = d.size) (S : Sq w0 g o d w) (hab : a < b) (hb : b ≤ d.size) (hsz : d.size < 4611686018427387904) :
    Calls Try.prog 45 #[.slice (some ⟨g, o, none⟩) d.size c, .int .i64 a, .int .i64 b] w fun e w' => e = .returned (.tuple #[]) ∧ Sq w0 g o (reverseRange d a b) w' := by
  have HR := Lib.hid R
  have S0 := Lib.hid S
  clear R S
  go_enter Try.func45, Try.ntmps45
  go_wp2
  go_loopw [6, 7] (fun iv jv wr => ∃ (i j : Nat) (dk : Array Int), iv = .int .i64 i ∧ jv = .int .i64 j ∧ i ≤ j + 1 ∧ j < b ∧ dk.size = d.size ∧ Hid (Sq w0 g o dk wr) ∧ Hid (reverseLoop i j dk = reverseRange d a b)) (fun iv jv _ => (Go.Proofs.intOf jv).toNat + 1 - (Go.Proofs.intOf iv).toNat)
  case atStart => exact ⟨a, b - 1, d, rfl, by congr 1; omega, by omega, by omega, rfl, S0, rfl⟩
  case round =>
    obtain ⟨i, j, dk, rfl, rfl, hij, hjb, hsk, SK, HO⟩ := hrel
    by_cases hlt : i < j
    · have hltz : (i : Int) < (j : Int) := by omega
      obtain ⟨G, hG, hc, hf⟩ := Sq.fam SK.out HR.out (by omega)
      rw [hsk] at hc hf
      have HG := Lib.hid hG
      clear hG
      have SN := Lib.hid (SK.out.ex_ HR.out HG.out i j (by omega) (by omega))
      have HL := Lib.hid hlt
      go_wp2
      go_region
      all_goals go_wp2
      exact ⟨⟨i + 1, j - 1, _, by go_num, by congr 1; omega, by omega, by omega, by rw [size_swp]; exact hsk, SN.out 1, by rw [← HO.out, revLoop_go dk HL.out]; exact rfl⟩, by simp [Go.Proofs.intOf]; omega⟩
    · have hltz : ¬ (i : Int) < (j : Int) := by omega
      go_wp2
      go_end0
      exact ⟨rfl, by rw [← HO.out, revLoop_stop dk hlt]; exact SK.out⟩
end BC
end Go.Proofs.Ytlcelocjfmclkaa
