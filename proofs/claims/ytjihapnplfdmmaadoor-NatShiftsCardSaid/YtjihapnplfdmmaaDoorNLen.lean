/-
  math/bits: Len32, LeadingZeros32. (The proof of Len32 is after the shelf's.)
-/
import Derived.Test.YtjihapnplfdmmaaDoorNMem
import Derived.Lib.BitFns
import Derived.Lib.Small
import Derived.Lib.Strings
import Derived.Lib.Slices
import Derived.Lib.Walk
namespace Go.Proofs.YtjihapnplfdmmaaDoor
open Go.RowKit
set_option linter.unusedVariables false
namespace NC
open L
theorem tab_size : Lib.len8tab.size = 256 := by decide +kernel
theorem tab_eq : ∀ n : Fin 256, (Lib.len8tab[n.val]'(by rw [tab_size]; exact n.isLt)).toNat = Lib.bitLen n.val := by decide +kernel
theorem tab_at (n : Nat) (h : n < Lib.len8tab.size) : (Lib.len8tab[n]'h).toNat = Lib.bitLen n := tab_eq ⟨n, by rw [← tab_size]; exact h⟩
theorem wrap64_id {n : Int} (h : -9223372036854775808 ≤ n ∧ n ≤ 9223372036854775807) : wrap64 n = n := by unfold wrap64; omega
set_option maxHeartbeats 4000000 in
set_option maxRecDepth 100000 in
theorem Len32_c (x : Int) (w : World) (h0 : 0 ≤ x) (h1 : x ≤ 4294967295) : Calls Tryd.prog 33 #[.int .u32 x] w (fun e w' => e = .returned (.int .i64 (Lib.bitLen x.toNat)) ∧ w = w') := by
  have hsz := tab_size
  go_enter Tryd.func33, Tryd.ntmps33
  go_wp2
  all_goals (go_ret; refine ⟨congrArg Ending.returned (congrArg (Value.int IntKind.i64) ?_), rfl⟩)
  all_goals rw [tab_at]
  all_goals first
    | (have e : (x / 65536 / 256).toNat = x.toNat / 16777216 := by omega
       have l := Lib.bitLen_le (x / 65536 / 256).toNat 8 (by omega) (by omega)
       have s := Lib.bitLen_shift24 x.toNat (by omega) (by omega)
       rw [e] at l ⊢
       rw [wrap64_id (n := ((Lib.bitLen (x.toNat / 16777216) : Nat) : Int)) (by omega), wrap64_id (by omega)]
       omega)
    | (have e : (x / 65536).toNat = x.toNat / 65536 := by omega
       have l := Lib.bitLen_le (x / 65536).toNat 8 (by omega) (by omega)
       have s := Lib.bitLen_shift16 x.toNat (by omega) (by omega)
       rw [e] at l ⊢
       rw [wrap64_id (n := ((Lib.bitLen (x.toNat / 65536) : Nat) : Int)) (by omega), wrap64_id (by omega)]
       omega)
    | (have e : (x / 256).toNat = x.toNat / 256 := by omega
       have l := Lib.bitLen_le (x / 256).toNat 8 (by omega) (by omega)
       have s := Lib.bitLen_shift8 x.toNat (by omega) (by omega)
       rw [e] at l ⊢
       rw [wrap64_id (n := ((Lib.bitLen (x.toNat / 256) : Nat) : Int)) (by omega), wrap64_id (by omega)]
       omega)
    | (have l := Lib.bitLen_le x.toNat 8 (by omega) (by omega)
       rw [wrap64_id (n := ((Lib.bitLen x.toNat : Nat) : Int)) (by omega), wrap64_id (by omega)])
theorem LeadingZeros32_c (x : Int) (w : World) (h0 : 0 ≤ x) (h1 : x ≤ 4294967295) : Calls Tryd.prog 64 #[.int .u32 x] w (fun e w' => e = .returned (.int .i64 (32 - (Lib.bitLen x.toNat : Int))) ∧ w = w') := by
  have l := Lib.bitLen_le x.toNat 32 (by omega) (by omega)
  have A := Lib.hid (Len32_c x w h0 h1)
  generalize Lib.bitLen x.toNat = b at *
  go_enter Tryd.func64, Tryd.ntmps64
  go_wp2_with (first | (go_at_call 33; (with_reducible refine (A.out).mono ?_); rintro e w' ⟨rfl, rfl⟩))
  go_ret
  exact ⟨rfl, rfl⟩
theorem bitLen_bd (x : Int) (h0 : 0 < x) (h1 : x ≤ 4294967295) : ∃ n : Nat, Lib.bitLen x.toNat = n + 1 ∧ n < 32 ∧ (2 : Int) ^ n ≤ x ∧ x < 2 ^ (n + 1) := by
  obtain ⟨a, rfl⟩ := Int.eq_ofNat_of_zero_le (Int.le_of_lt h0)
  have ha : a ≠ 0 := by omega
  have key : ∀ (f b : Nat), b ≠ 0 → b < 2 ^ f → ∃ n : Nat, Lib.bitLenAux f b = n + 1 ∧ 2 ^ n ≤ b ∧ b < 2 ^ (n + 1) := by
    intro f
    induction f with
    | zero => intro b h1 h2; simp at h2; omega
    | succ f ih =>
      intro b h1 h2
      simp only [Lib.bitLenAux, if_neg h1]
      by_cases hb : b / 2 = 0
      · refine ⟨0, ?_, by simp; omega, by simp; omega⟩
        rw [hb]
        cases f <;> simp [Lib.bitLenAux]
      · obtain ⟨n, e1, e2, e3⟩ := ih (b / 2) hb (by rw [Nat.pow_succ] at h2; omega)
        exact ⟨n + 1, by omega, by rw [Nat.pow_succ]; omega, by rw [Nat.pow_succ]; omega⟩
  obtain ⟨n, e1, e2, e3⟩ := key 64 a ha (by omega)
  have l := Lib.bitLen_le a 32 (by omega) (by omega)
  refine ⟨n, e1, ?_, by exact_mod_cast e2, by exact_mod_cast e3⟩
  have : Lib.bitLen a = n + 1 := e1
  omega
end NC
end Go.Proofs.YtjihapnplfdmmaaDoor
