/-
  DyadRing: the walk.
-/
import Derived.Test.YtpmpkllpaceloaaDoorC7
namespace Go.Proofs.YtpmpkllpaceloaaDoor
set_option linter.unusedVariables false
set_option linter.unusedSimpArgs false
open Go.RowKit
set_option linter.unusedVariables false
namespace DC
open L NC NK
open Z (Nz Tz cmpv)
theorem ok2 (W : World) (x1 x2 : Int) (o : Bool) (ho : [x1, x2].all (· == 0) = o) : Calls Tryd.prog 31 #[.slice (some ⟨W.heap.size, 0, none⟩) 2 2] (W.alloc (.cells #[.int .i64 x1, .int .i64 x2] 23)) fun e w' => e = .returned (.bool o) ∧ W.alloc (.cells #[.int .i64 x1, .int .i64 x2] 23) = w' := by
  have h1 := ok_lit W [x1, x2] (by simp)
  rw [ho] at h1
  exact h1
theorem ok2a (W : World) (ob : Obj) (x1 x2 : Int) (o : Bool) (ho : [x1, x2].all (· == 0) = o) : Calls Tryd.prog 31 #[.slice (some ⟨W.heap.size + 1, 0, none⟩) 2 2] ((W.alloc ob).alloc (.cells #[.int .i64 x1, .int .i64 x2] 23)) fun e w' => e = .returned (.bool o) ∧ (W.alloc ob).alloc (.cells #[.int .i64 x1, .int .i64 x2] 23) = w' := by
  have h := ok2 (W.alloc ob) x1 x2 o ho
  rw [show (W.alloc ob).heap.size = W.heap.size + 1 by simp] at h
  exact h
theorem ok4a (W : World) (ob : Obj) (x1 x2 x3 x4 : Int) (o : Bool) (ho : [x1, x2, x3, x4].all (· == 0) = o) : Calls Tryd.prog 31 #[.slice (some ⟨W.heap.size + 1, 0, none⟩) 4 4] ((W.alloc ob).alloc (.cells #[.int .i64 x1, .int .i64 x2, .int .i64 x3, .int .i64 x4] 23)) fun e w' => e = .returned (.bool o) ∧ (W.alloc ob).alloc (.cells #[.int .i64 x1, .int .i64 x2, .int .i64 x3, .int .i64 x4] 23) = w' := by
  have h := ok4 (W.alloc ob) x1 x2 x3 x4 o ho
  rw [show (W.alloc ob).heap.size = W.heap.size + 1 by simp] at h
  exact h
theorem ok5a (W : World) (ob : Obj) (x1 x2 x3 x4 x5 : Int) (o : Bool) (ho : [x1, x2, x3, x4, x5].all (· == 0) = o) : Calls Tryd.prog 31 #[.slice (some ⟨W.heap.size + 1, 0, none⟩) 5 5] ((W.alloc ob).alloc (.cells #[.int .i64 x1, .int .i64 x2, .int .i64 x3, .int .i64 x4, .int .i64 x5] 23)) fun e w' => e = .returned (.bool o) ∧ (W.alloc ob).alloc (.cells #[.int .i64 x1, .int .i64 x2, .int .i64 x3, .int .i64 x4, .int .i64 x5] 23) = w' := by
  have h := ok5 (W.alloc ob) x1 x2 x3 x4 x5 o ho
  rw [show (W.alloc ob).heap.size = W.heap.size + 1 by simp] at h
  exact h
theorem all4 {x1 x2 x3 x4 : Int} (h : [x1, x2, x3, x4].all (· == 0) = true) : x1 = 0 ∧ x2 = 0 ∧ x3 = 0 ∧ x4 = 0 := by
  simpa [List.all_cons, Bool.and_eq_true] using h
theorem all5 {x1 x2 x3 x4 x5 : Int} (h : [x1, x2, x3, x4, x5].all (· == 0) = true) : x1 = 0 ∧ x2 = 0 ∧ x3 = 0 ∧ x4 = 0 ∧ x5 = 0 := by
  simpa [List.all_cons, Bool.and_eq_true] using h
theorem beq_iff {x y : Int} (h : x = 0 ↔ y = 0) : ∃ t, (x == 0) = t ∧ (y == 0) = t := by
  refine ⟨y == 0, ?_, rfl⟩
  by_cases hy : y = 0
  · simp [hy, h.2 hy]
  · have : x ≠ 0 := fun hx => hy (h.1 hx)
    rw [beq_eq_false_iff_ne.2 this, beq_eq_false_iff_ne.2 hy]
end DC
end Go.Proofs.YtpmpkllpaceloaaDoor
