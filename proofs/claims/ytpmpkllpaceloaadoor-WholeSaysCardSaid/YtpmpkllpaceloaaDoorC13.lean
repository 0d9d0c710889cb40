/-
  Texts glued together for a claim: V1 V2 V3.
-/
import Derived.Test.YtpmpkllpaceloaaDoorC8
import Derived.Test.YtpmpkllpaceloaaDoorC12
import Derived.Test.YtpmpkllpaceloaaDoorC10
/-
  The document's sum, pure: what is counted; what is told.
-/
namespace Go.Proofs.YtpmpkllpaceloaaDoor
set_option linter.unusedVariables false
set_option linter.unusedSimpArgs false
open Go.RowKit
set_option linter.unusedVariables false
set_option linter.unusedSimpArgs false
namespace VC
open Z (Nz Tz cmpv big)
open ZC DC RC QC SC
/-- zeros; those with the sign -/
def zc (L : List Int) : Nat := L.countP fun x => x == 0 || x == 9223372036854775808
def sgc (L : List Int) : Nat := L.countP fun x => x == 9223372036854775808
/-- what the document tells of a list -/
noncomputable def SO (L : List Int) (mode : Int) : Int × Bool :=
  if hN L || (hP L && hM L) then (9221120237041090560, false)
  else if hP L || hM L then (if hM L then 18442240474082181120 else 9218868437227405312, false)
  else if vs L ≠ 0 then (TX (tot L dz) mode, TL (tot L dz) mode)
  else if zc L = L.length ∧ sgc L = zc L ∧ 0 < zc L then (9223372036854775808, false)
  else if zc L = L.length ∧ sgc L = 0 then (0, false)
  else (if mode = 2 then 9223372036854775808 else 0, false)
end VC
end Go.Proofs.YtpmpkllpaceloaaDoor

/-
  The document's sum: its parts.
-/
namespace Go.Proofs.YtpmpkllpaceloaaDoor
set_option linter.unusedVariables false
set_option linter.unusedSimpArgs false
open Go.RowKit
set_option linter.unusedVariables false
set_option linter.unusedSimpArgs false
namespace VC
open Z (Nz Tz cmpv big)
open ZC DC RC QC SC
theorem IsNan_c (x : Int) (h0 : 0 ≤ x) (h1 : x ≤ 18446744073709551615) (w : World) : Calls Tryd.prog 16 #[.int .u64 x] w fun e w' => e = .returned (.bool (F.cls x == 5)) ∧ w = w' := by
  have CO := Lib.hid (FloatR.ClassOf_c x h0 h1 w)
  generalize F.cls x = c at *
  go_enter Tryd.func16, Tryd.ntmps16
  go_wp2_with (go_at_call 49; (with_reducible refine (CO.out).mono ?_); rintro e w2 ⟨rfl, rfl⟩)
  go_ret
  exact ⟨rfl, rfl⟩
theorem IsInf_c (x : Int) (h0 : 0 ≤ x) (h1 : x ≤ 18446744073709551615) (w : World) : Calls Tryd.prog 18 #[.int .u64 x] w fun e w' => e = .returned (.bool (F.cls x == 4)) ∧ w = w' := by
  have CO := Lib.hid (FloatR.ClassOf_c x h0 h1 w)
  generalize F.cls x = c at *
  go_enter Tryd.func18, Tryd.ntmps18
  go_wp2_with (go_at_call 49; (with_reducible refine (CO.out).mono ?_); rintro e w2 ⟨rfl, rfl⟩)
  go_ret
  exact ⟨rfl, rfl⟩
theorem Minus_c (x : Int) (w : World) : Calls Tryd.prog 22 #[.int .u64 x] w fun e w' => e = .returned (.bool (decide (9223372036854775808 ≤ x))) ∧ w = w' := by
  go_enter Tryd.func22, Tryd.ntmps22
  go_wp2
  go_ret
  exact ⟨rfl, rfl⟩
theorem Signed_c (x : Int) (b : Bool) (w : World) (h0 : 0 ≤ x) (h1 : x < 9223372036854775808) : Calls Tryd.prog 21 #[.int .u64 x, .bool b] w fun e w' => e = .returned (.int .u64 (if b = true then x + 9223372036854775808 else x)) ∧ w = w' := by
  have i1 : IntKind.u64.wrap (x + 9223372036854775808) = x + 9223372036854775808 := IntWalk.u64_in _ (by omega)
  cases b
  · go_enter Tryd.func21, Tryd.ntmps21
    go_wp2
    go_ret
    exact ⟨rfl, rfl⟩
  · go_enter Tryd.func21, Tryd.ntmps21
    go_wp2
    go_ret
    exact ⟨rfl, rfl⟩
theorem QuietNan_c (w : World) : Calls Tryd.prog 17 #[] w fun e w' => e = .returned (.int .u64 9221120237041090560) ∧ w = w' := by
  go_enter Tryd.func17, Tryd.ntmps17
  go_wp2
  go_ret
  exact ⟨rfl, rfl⟩
end VC
end Go.Proofs.YtpmpkllpaceloaaDoor

/-
  The document's sum of a list.
-/
namespace Go.Proofs.YtpmpkllpaceloaaDoor
set_option linter.unusedVariables false
set_option linter.unusedSimpArgs false
open Go.RowKit
set_option linter.unusedVariables false
set_option linter.unusedSimpArgs false
namespace VC
open Z (Nz Tz cmpv big)
open ZC DC RC QC SC
/-- what the loop of SumOf keeps: the box of the sum, its value -/
structure SI (w W : World) (b : Bool) (A : Option Addr) (n c : Nat) (t s : Int) : Prop where
  k : Blk W w.heap.size 36 #[.bool b, .slice A n c, .int .i64 t]
  q : QS 2200 1100 W (.agg #[.bool b, .slice A n c, .int .i64 t]) s
  b : Below w.heap.size w W
theorem SI.below {w W W' : World} {b A n c t s} (h : SI w W b A n c t s) (hb : Below W.heap.size W W') : SI w W' b A n c t s := ⟨h.k.below hb h.k.lt, h.q.below hb, h.b.trans (hb.mono h.b.size)⟩
theorem SI.set {w W V : World} {b A n c t s b' A' n' c'} {t' z' s' : Int} (h : SI w W b A n c t s) (hV : Below V.heap.size V W) (hg : w.heap.size < V.heap.size) (hz : ZL W b' A' n' c' z') (k1 : z'.natAbs < 2 ^ 2200) (k2 : 0 ≤ t') (k3 : t' ≤ 1100) (k4 : sc z' (-t') = s') (hf : Fr V.heap.size A' n') :
    SI w (((W.setCell ⟨w.heap.size, 0, none⟩ (.bool b')).setCell ⟨w.heap.size, 1, none⟩ (.slice A' n' c')).setCell ⟨w.heap.size, 2, none⟩ (.int .i64 t')) b' A' n' c' t' s' :=
  ⟨blk3 h.k _ _ _, ⟨z', t', ⟨b', A', n', c', rfl, QC.set3 hz (off_new hf hg) _ _ _⟩, k1, k2, k3, k4⟩, below3q h.b (Nat.le_refl _) _ _ _⟩
/-- one round: what becomes of the counts -/
def st (L : List Int) (p m n : Bool) (z s : Int) : Prop := p = hP L ∧ m = hM L ∧ n = hN L ∧ z = zc L ∧ s = sgc L
end VC
end Go.Proofs.YtpmpkllpaceloaaDoor

