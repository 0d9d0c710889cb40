/-
  Package nat: Of.
-/
import Derived.Test.YtjihapnplfdmmaaN4
namespace Go.Proofs.Ytjihapnplfdmmaa
open Go.RowKit
set_option linter.unusedVariables false
namespace NC
open L
open Z (Nz Tz cmpv)
theorem Of_c (n : Int) (w : World) (hn : 0 ≤ n ∧ n < 18446744073709551616) : Calls Try.prog 13 #[.int .u64 n] w (RetV w n) := by
  have hT := trim_c (some ⟨w.heap.size, 0, none⟩) 2 2 [n % 4294967296, n / 4294967296] (w.alloc (.cells #[.int .u32 (n % 4294967296), .int .u32 (n / 4294967296)] 48)) (Row.sl (L := [n % 4294967296, n / 4294967296]) (by
    have := Blk.new w 48 #[.int .u32 (n % 4294967296), .int .u32 (n / 4294967296)]
    exact this) 2 (by simp)) (by simp)
  have T := Lib.hid hT
  have hv : lv [n % 4294967296, n / 4294967296] = n := by simp [lv]; omega
  have hl : Lim [n % 4294967296, n / 4294967296] := by intro d hd; simp at hd; rcases hd with rfl | rfl <;> omega
  have HV := Lib.hid hv
  have HL := Lib.hid hl
  have HS : Hid (Sl .u32 (w.alloc (.cells #[.int .u32 (n % 4294967296), .int .u32 (n / 4294967296)] 48)) (.slice (some ⟨w.heap.size, 0, none⟩) 2 2) [n % 4294967296, n / 4294967296]) := Row.sl (L := [n % 4294967296, n / 4294967296]) (Blk.new w 48 #[.int .u32 (n % 4294967296), .int .u32 (n / 4294967296)]) 2 (by simp)
  clear hT hv hl
  go_enter Try.func13, Try.ntmps13
  go_wp2_with (first | (go_at_call 23; (with_reducible refine (T.out).mono ?_); rintro e w2 ⟨m, rfl, hm, hz, hv, rfl⟩))
  go_ret
  exact ⟨_, _, _, rfl, trimmed (L := [n % 4294967296, n / 4294967296]) HS.out hm HL.out hz hv HV.out, (Below.refl _ _).alloc (Nat.le_refl _) _⟩
end NC
end Go.Proofs.Ytjihapnplfdmmaa
