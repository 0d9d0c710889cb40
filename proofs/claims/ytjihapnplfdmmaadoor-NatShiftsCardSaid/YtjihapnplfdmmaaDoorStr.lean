/-
  Strings as lists of bytes; the decimal text of a number.
-/
import Derived.Test.YtjihapnplfdmmaaDoorBase
import Derived.Laws.Concat
import Derived.Laws.Strings2
import Derived.Laws.Strings
namespace Go.Proofs.YtjihapnplfdmmaaDoor
open Go.RowKit
set_option linter.unusedVariables false
def bs (L : List UInt8) : ByteArray := ⟨L.toArray⟩
theorem bs_size (L : List UInt8) : (bs L).size = L.length := by show L.toArray.size = _; simp
theorem bs_app (L M : List UInt8) : bs L ++ bs M = bs (L ++ M) := ByteArray.mk_append_mk L M
theorem bs_toList (L : List UInt8) : (bs L).toList = L := ByteArray.toList_mk L
theorem bs_inj {L M : List UInt8} (h : bs L = bs M) : L = M := by
  have := congrArg (fun b : ByteArray => b.data.toList) h
  simpa [bs] using this
/-- one digit -/
def dg (n : Nat) : UInt8 := UInt8.ofNat (48 + n % 10)
def dec (n : Nat) : List UInt8 := if n < 10 then [dg n] else dec (n / 10) ++ [dg n]
termination_by n
decreasing_by omega
theorem dec_small {n : Nat} (h : n < 10) : dec n = [dg n] := by rw [dec, if_pos h]
theorem dec_more {n : Nat} (h : ¬ n < 10) : dec n = dec (n / 10) ++ [dg n] := by rw [dec, if_neg h]
theorem dec_len (n : Nat) : (dec n).length ≤ n + 1 := by
  induction n using Nat.strongRecOn with
  | ind n ih =>
    by_cases h : n < 10
    · rw [dec_small h]; simp
    · rw [dec_more h]
      have := ih (n / 10) (by omega)
      simp; omega
theorem dec_ne (n : Nat) : dec n ≠ [] := by
  by_cases h : n < 10
  · rw [dec_small h]; simp
  · rw [dec_more h]; simp
theorem ten_ext (k : Nat) (h : k < 10) : (ByteArray.mk #[48, 49, 50, 51, 52, 53, 54, 55, 56, 57]).extract k (k + 1) = bs [dg k] := by
  have : ∀ k : Fin 10, (ByteArray.mk #[48, 49, 50, 51, 52, 53, 54, 55, 56, 57]).extract k.1 (k.1 + 1) = bs [dg k.1] := by decide
  exact this ⟨k, h⟩
theorem dg_mod (n : Nat) : dg (n % 10) = dg n := by unfold dg; rw [Nat.mod_mod]
end Go.Proofs.YtjihapnplfdmmaaDoor
