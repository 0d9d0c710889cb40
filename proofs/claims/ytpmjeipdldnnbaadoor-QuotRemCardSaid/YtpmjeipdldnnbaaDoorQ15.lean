/-
  Rounded, and To and Part: what each tells.
-/
import Derived.Test.YtpmjeipdldnnbaaDoorQ14
namespace Go.Proofs.YtpmjeipdldnnbaaDoor
set_option linter.unusedVariables false
set_option linter.unusedSimpArgs false
open Go.RowKit
set_option linter.unusedVariables false
set_option linter.unusedSimpArgs false
namespace QC
open Z (Nz Tz cmpv big)
open ZC DC RC
theorem sa_A (d : Dy) : sa (S d) = A d ∧ decide (S d < 0) = ng d := by
  have ab := A_abs d
  constructor
  · unfold sa
    by_cases h0 : S d < 0
    · rw [if_pos h0]; exact (ab.2 h0).1.symm
    · rw [if_neg h0]; exact (ab.1 (by omega)).1.symm
  · by_cases h0 : S d < 0
    · rw [decide_eq_true h0]; exact (ab.2 h0).2.symm
    · rw [decide_eq_false h0]; exact (ab.1 (by omega)).2.symm
theorem part_r {c d : Dy} {mode r : Int} {hf m : Bool} (hc : Ok c) (h : PE c d mode = 0) (t : Tow (sa (S c)) r hf m) : (xR (S c) (lw (S c) r hf m) d.m mode = PX c d mode ∧ lR (S c) (lw (S c) r hf m) d.m = PL c d mode) ∧ (-1 ≤ d.m ∧ d.m ≤ 1) ∧ (0 ≤ mode ∧ mode ≤ 4) := by
  obtain ⟨es, eg⟩ := sa_A c
  have hPE := h
  unfold PE at hPE
  have hm : (0 ≤ mode ∧ mode ≤ 4) ∧ isdir d = true := by
    rcases Classical.em ((0 ≤ mode ∧ mode ≤ 4) ∧ isdir d = true) with k | k
    · exact k
    · rw [if_pos k] at hPE
      split at hPE
      · contradiction
      · split at hPE
        · contradiction
        · cases hPE
  obtain ⟨hm, hd⟩ := hm
  unfold isdir at hd
  rw [decide_eq_true_iff] at hd
  refine ⟨?_, by omega, hm⟩
  have tA := t
  rw [es] at tA
  by_cases d0 : d.m = 0
  · have n0 : (d.m.natAbs : Int) = 0 := by omega
    have z0 : az c d = (c.m.natAbs : Int) := by unfold az nz; rw [if_pos n0]
    have z1 : ax c d = c.x := by unfold ax nx; rw [if_pos n0]
    have z2 : bz c d = ng c := by unfold bz nb; rw [if_pos n0]
    have t0 : Tow (sc (az c d) (ax c d)) r hf m := by rw [z0, z1]; exact tA
    obtain ⟨q1, q2⟩ := PX_of1 h t0
    obtain ⟨k1, k2⟩ := rounded_0 t hm
    rw [q1, q2, z2, d0, k1, k2, eg]
    exact ⟨rfl, rfl⟩
  · have n1 : (d.m.natAbs : Int) = 1 := by omega
    have n0 : ¬ (d.m.natAbs : Int) = 0 := by omega
    have hlr := lR_part (S c) (lw (S c) r hf m) d.m d0
    by_cases c0 : c.m = 0
    · have k0 : (c.m.natAbs : Int) = 0 := by omega
      have s0 : S c = 0 := by unfold S; rw [c0]; exact sc_zero.2 rfl
      have z0 : az c d = 1 := by unfold az nz; rw [if_neg n0, if_pos k0]
      have z1 : ax c d = -10000 := by unfold ax nx; rw [if_neg n0, if_pos k0]
      have z2 : bz c d = ng d := by unfold bz nb; rw [if_neg n0, if_pos k0]
      have t0 : Tow (sc (az c d) (ax c d)) 0 false true := by rw [z0, z1]; exact tow_tiny1 rfl
      obtain ⟨q1, q2⟩ := PX_of1 h t0
      have ts : Tow (sa (S c)) 0 false false := by rw [s0]; unfold sa; rw [if_neg (by omega)]; exact tow_zero
      obtain ⟨rfl, rfl, rfl⟩ := t.unique ts
      rw [q1, q2, z2, hlr, s0]
      refine ⟨?_, rfl⟩
      rw [rounded_z hm (by omega)]; rfl
    · have k0 : ¬ (c.m.natAbs : Int) = 0 := by omega
      have s0 : S c ≠ 0 := fun h0 => c0 (sc_zero.1 h0)
      have hi := hc.2.2
      have hx := hi.2.2
      have hN := tow_nudge (z := (c.m.natAbs : Int)) (x := c.x) (by omega) (abs_small hi) (by omega) tA
      have z1 : ax c d = c.x - 64 := by unfold ax nx; rw [if_neg n0, if_neg k0]
      have z2 : bz c d = ng c := by unfold bz nb; rw [if_neg n0, if_neg k0]
      by_cases hg : ng c = ng d
      · have z0 : az c d = (c.m.natAbs : Int) * 18446744073709551616 + 1 := by unfold az nz; rw [if_neg n0, if_neg k0, if_pos hg]
        have t0 : Tow (sc (az c d) (ax c d)) r hf true := by rw [z0, z1, nudge_val _ _ (by omega), Int.one_mul]; exact hN.1
        obtain ⟨q1, q2⟩ := PX_of1 h t0
        have hmo : d.m = if S c < 0 then -1 else 1 := by
          rw [← eg] at hg
          unfold ng at hg
          by_cases h0 : S c < 0
          · rw [if_pos h0]; rw [decide_eq_true h0] at hg; have := of_decide_eq_true hg.symm; omega
          · rw [if_neg h0]; rw [decide_eq_false h0] at hg; have := of_decide_eq_false hg.symm; omega
        rw [q1, q2, z2, hlr, rounded_f t hm s0 hmo, eg]
        exact ⟨rfl, by simp⟩
      · have z0 : az c d = (c.m.natAbs : Int) * 18446744073709551616 - 1 := by unfold az nz; rw [if_neg n0, if_neg k0, if_neg hg]
        have t0 : Tow (sc (az c d) (ax c d)) (dnr r hf m) (dnh hf m) true := by
          have := nudge_val (c.m.natAbs : Int) c.x (by omega) (-1)
          rw [z0, z1, show (c.m.natAbs : Int) * 18446744073709551616 - 1 = (c.m.natAbs : Int) * 18446744073709551616 + -1 by omega, this, show (-1 : Int) * sc 1 (c.x - 64) = -(sc 1 (c.x - 64)) by rw [Int.neg_mul, Int.one_mul]]
          exact hN.2
        obtain ⟨q1, q2⟩ := PX_of1 h t0
        have hmo : d.m = if S c < 0 then 1 else -1 := by
          rw [← eg] at hg
          unfold ng at hg
          by_cases h0 : S c < 0
          · rw [if_pos h0]; rw [decide_eq_true h0] at hg
            by_cases h9 : d.m < 0
            · rw [decide_eq_true h9] at hg; exact absurd rfl hg
            · omega
          · rw [if_neg h0]; rw [decide_eq_false h0] at hg
            by_cases h9 : d.m < 0
            · omega
            · rw [decide_eq_false h9] at hg; exact absurd rfl hg
        rw [q1, q2, z2, hlr, rounded_n t hm s0 hmo, eg]
        exact ⟨rfl, by simp⟩
theorem Rounded_t {M T : Nat} {u : Value} {w : World} {d : Dy} {mode : Int} (h : QS M T w u (S d)) (hM : M ≤ 200000) (hT : T ≤ 20000) (hd : Ok d) (hm : 0 ≤ mode ∧ mode ≤ 4) :
    Calls Tryd.prog 48 #[u, .int .i64 0, .int .i64 mode] w fun e w' => e = .returned (.tuple #[.int .u64 (TX d mode), .bool (TL d mode)]) ∧ Below w.heap.size w w' := by
  obtain ⟨r, hf, m, t, -⟩ := towA hd
  obtain ⟨e1, e2, -⟩ := TX_of hd hm t
  obtain ⟨es, eg⟩ := sa_A d
  rw [← es] at t
  obtain ⟨k1, k2⟩ := rounded_0 t hm
  have := Rounded_w u (S d) (lw (S d) r hf m) 0 mode w h hM hT (lw_low t) (by omega) hm (loR_bd t)
  rw [k1, k2, eg] at this
  rw [e1, e2]
  exact this
theorem Rounded_p {M T : Nat} {u : Value} {w : World} {c d : Dy} {mode : Int} (h : QS M T w u (S c)) (hM : M ≤ 200000) (hT : T ≤ 20000) (hc : Ok c) (hp : PE c d mode = 0) :
    Calls Tryd.prog 48 #[u, .int .i64 d.m, .int .i64 mode] w fun e w' => e = .returned (.tuple #[.int .u64 (PX c d mode), .bool (PL c d mode)]) ∧ Below w.heap.size w w' := by
  obtain ⟨r, hf, m, t, -⟩ := towA hc
  obtain ⟨es, eg⟩ := sa_A c
  rw [← es] at t
  obtain ⟨⟨k1, k2⟩, hmo, hm⟩ := part_r hc hp t
  have := Rounded_w u (S c) (lw (S c) r hf m) d.m mode w h hM hT (lw_low t) hmo hm (loR_bd t)
  rw [k1, k2] at this
  exact this
end QC
end Go.Proofs.YtpmjeipdldnnbaaDoor
