/-
  The reference's whole numbers: powers of two.
-/
import Derived.Test.YtjihapnplfdmmaaZ6
namespace Go.Proofs.Ytjihapnplfdmmaa
open Go.RowKit
set_option linter.unusedVariables false
namespace ZC
open Z
theorem pow2_bigN (n N : Nat) (h : n ≤ N) (hN : N ≠ 0) : ((2 : Int) ^ n).natAbs < big N := by
  have h1 : ((2 : Int) ^ n).natAbs = 2 ^ n := by rw [Int.natAbs_pow]; rfl
  rw [h1]; unfold big
  exact Nat.lt_of_le_of_lt (Nat.pow_le_pow_right (by decide) h) (Nat.pow_lt_pow_left (by decide) hN)
theorem pow2_big (n : Nat) (h : n ≤ 1000000) : ((2 : Int) ^ n).natAbs < big 1000000 := pow2_bigN n _ h (by decide)
theorem pow2_60 {n : Int} (h : n < 60) : (2 : Int) ^ n.toNat ≤ 576460752303423488 := by
  have : (2 : Nat) ^ n.toNat ≤ 2 ^ 59 := Nat.pow_le_pow_right (by omega) (by omega)
  have h2 : ((2 ^ n.toNat : Nat) : Int) ≤ ((2 ^ 59 : Nat) : Int) := Int.ofNat_le.2 this
  simpa using h2
set_option maxHeartbeats 8000000 in
theorem ZPow_c : ∀ (N : Nat) (n : Int) (w : World), 0 ≤ n → n.toNat ≤ N → n ≤ 1000000 → Calls Try.prog 30 #[.int .i64 n] w (RetZ w (2 ^ n.toNat)) := by
  intro N
  induction N with
  | zero =>
    intro n w h0 h1 h2
    obtain rfl : n = 0 := by omega
    have NC := Lib.hid (fun W => N_c 1 (by omega) (by omega) W)
    go_enter Try.func30, Try.ntmps30
    go_wp2_with (first | (go_at_call 10; (with_reducible refine (NC.out _).mono ?_); rintro e w1 ⟨_, rfl, ⟨b1, A1, n1, c1, rfl, hv1⟩, hb1⟩ ; obtain ⟨hc1, hf1⟩ := bcell hb1 ; have hz1 := hb1.size))
    have bw : Below w.heap.size w w1 := (below1 w _).trans (hb1.mono (by simp))
    have c0 : w1.cell? ⟨w.heap.size, 0, none⟩ = some (.bool false) := by rw [hb1.cell (by simp)]; simp [go_sem]
    have c1' : w1.cell? ⟨w.heap.size, 1, none⟩ = some (.slice none 0 0) := by rw [hb1.cell (by simp)]; simp [go_sem]
    exact bodyPost_ret (v := .agg #[.bool b1, .slice A1 n1 c1]) (by simp [results, Try.results30, go_sem, c0, c1']) rfl (RetZ.cell hv1 (by simp) (Nat.le_refl _) c0 c1' bw)
  | succ N ih =>
    intro n w h0 h1 h2
    by_cases hz : n = 0
    · exact ih n w h0 (by omega) h2
    · have hz1 : (n == 0) = false := by simpa using hz
      by_cases h6 : n < 60
      · have hb := pow2_60 h6
        have hp : (0 : Int) < 2 ^ n.toNat := Int.pow_pos (by decide)
        have e : wrap64 (2 ^ n.toNat) = 2 ^ n.toNat := by unfold wrap64; omega
        have NC := Lib.hid (fun W => N_c (2 ^ n.toNat) (by omega) (by omega) W)
        have E := Lib.hid e
        clear e hp hb ih
        go_enter Try.func30, Try.ntmps30
        go_wp2_with (go_at_call 10; rw [E.out]; (with_reducible refine (NC.out _).mono ?_); rintro e w1 ⟨_, rfl, ⟨b1, A1, n1, c1, rfl, hv1⟩, hb1⟩ ; obtain ⟨hc1, hf1⟩ := bcell hb1 ; have hz1 := hb1.size)
        have bw : Below w.heap.size w w1 := (below1 w _).trans (hb1.mono (by simp))
        have c0 : w1.cell? ⟨w.heap.size, 0, none⟩ = some (.bool false) := by rw [hb1.cell (by simp)]; simp [go_sem]
        have c1' : w1.cell? ⟨w.heap.size, 1, none⟩ = some (.slice none 0 0) := by rw [hb1.cell (by simp)]; simp [go_sem]
        exact bodyPost_ret (v := .agg #[.bool b1, .slice A1 n1 c1]) (by simp [results, Try.results30, go_sem, c0, c1']) rfl (RetZ.cell hv1 (by simp) (Nat.le_refl _) c0 c1' bw)
      · have P1 := Lib.hid (fun W => ih (n / 2) W (by omega) (by omega) (by omega))
        have P2 := Lib.hid (fun W => ih (n - n / 2) W (by omega) (by omega) (by omega))
        have MC := Lib.hid (fun va vb W h1 h2 => ZMul_c va vb (2 ^ (n / 2).toNat) (2 ^ (n - n / 2).toNat) W h1 h2 (pow2_big _ (by omega)) (pow2_big _ (by omega)))
        have hmul : (2 : Int) ^ (n / 2).toNat * 2 ^ (n - n / 2).toNat = 2 ^ n.toNat := by rw [← Int.pow_add]; congr 1; omega
        rw [hmul] at MC
        clear ih hmul
        go_enter Try.func30, Try.ntmps30
        have N0 := Lib.hid (Blk.new w 34 #[.bool false, .slice none 0 0])
        go_wp2_with (first | (go_at_call 30; (with_reducible refine (P1.out _).mono ?_); rintro e w1 ⟨_, rfl, ⟨b1, A1, n1, c1, rfl, hv1⟩, hb1⟩ ; obtain ⟨hc1, hf1⟩ := bcell hb1 ; have hz1 := hb1.size ; have M1 := Blk.after hb1 N0.out rfl (by simp) ; clear hc1 hf1) | (go_at_call 30; (with_reducible refine (P2.out _).mono ?_); rintro e w2 ⟨_, rfl, ⟨b2, A2, n2, c2, rfl, hv2⟩, hb2⟩ ; obtain ⟨hc2, hf2⟩ := bcell hb2 ; have hz2 := hb2.size ; have M2 := M1.below hb2 M1.lt ; clear hc2 hf2) | (go_at_call 15; (with_reducible refine (MC.out _ _ _ (hv1.below hb2).v hv2.v).mono ?_); rintro e w3 ⟨_, rfl, ⟨b3, A3, n3, c3, rfl, hv3⟩, hb3⟩ ; obtain ⟨hc3, hf3⟩ := bcell hb3 ; have hz3 := hb3.size ; have M3 := M2.below hb3 M2.lt; have p0 := M3.at_ 0 rfl; have p1 := M3.at_ 1 rfl; have f0 := M3.frozen 0; have f1 := M3.frozen 1; clear hc3 hf3))
        have bw : Below w.heap.size w w1 := (below1 w _).trans (hb1.mono (by simp))
        have bw2 := bw.trans (hb2.mono bw.size)
        have bw3 := bw2.trans (hb3.mono bw2.size)
        have c0 := M3.at_ 0 rfl
        have c1' := M3.at_ 1 rfl
        exact bodyPost_ret (v := .agg #[.bool b3, .slice A3 n3 c3]) (by simp [results, Try.results30, go_sem, c0, c1']) rfl (RetZ.cell hv3 bw2.size (Nat.le_refl _) c0 c1' bw3)
end ZC
end Go.Proofs.Ytjihapnplfdmmaa
