/-
  ulpkeep.ok: true just where all errors handed in are OK; it only reads.
-/
import Derived.Test.YtjihapnplfdmmaaDoorProg
import Derived.Test.YtjihapnplfdmmaaDoorBase
import Derived.WalkKit
import Derived.WalkLawsBesides
import Derived.LoopTactic
import Derived.Lib.Hide
import Derived.Outline
namespace Go.Proofs.YtjihapnplfdmmaaDoor
open Go.RowKit
set_option linter.unusedVariables false
namespace OkC
theorem all_snoc (zs : List Int) (k : Nat) (z : Int) (hk : k < zs.length) (hz : zs.getD k 0 = z) (ha : (zs.take k).all (· == 0) = true) (h : (z == 0) = true) :
    (zs.take (k + 1)).all (· == 0) = true := by
  rw [List.take_succ_eq_append_getElem hk, List.all_append, ha]
  rw [List.getD_eq_getElem?_getD, List.getElem?_eq_getElem hk] at hz
  simp at hz
  simp [hz, h]
theorem all_no (zs : List Int) (k : Nat) (z : Int) (hk : k < zs.length) (hz : zs.getD k 0 = z) (h : (z == 0) = false) : zs.all (· == 0) = false := by
  rw [List.getD_eq_getElem?_getD, List.getElem?_eq_getElem hk] at hz
  simp at hz
  rw [List.all_eq_false]
  exact ⟨zs[k], List.getElem_mem hk, by rw [hz]; simpa using h⟩
theorem ok_c (zs : List Int) (b off cap : Nat) (w : World) (hn : zs.length ≤ 1000)
    (hc : ∀ i, i < zs.length → w.cell? ⟨b, off + i, none⟩ = some (.int .i64 (zs.getD i 0))) :
    Calls Tryd.prog 27 #[.slice (some ⟨b, off, none⟩) zs.length cap] w fun e w' => e = .returned (.bool (zs.all (· == 0))) ∧ w = w' := by
  have HC := Lib.hid hc
  clear hc
  obtain ⟨r, hr⟩ : ∃ r, r = zs.all (· == 0) := ⟨_, rfl⟩
  rw [← hr]
  have HR := Lib.hid hr
  clear hr
  obtain ⟨n, hn'⟩ : ∃ n, n = zs.length := ⟨_, rfl⟩
  rw [← hn'] at hn ⊢
  have HN := Lib.hid hn'
  clear hn'
  go_enter Tryd.func27, Tryd.ntmps27
  go_wp2
  go_loop [7] (fun i => ∃ k : Nat, k ≤ n ∧ i = .int .i64 k ∧ (zs.take k).all (· == 0) = true) (fun i => n - (intOf i).toNat)
  case atStart => exact ⟨0, Nat.zero_le _, rfl, by simp⟩
  case round =>
    obtain ⟨k, hk, rfl, hall⟩ := hrel
    have HA := Lib.hid hall
    clear hall
    by_cases hlt : k < n
    · have hcell := HC.out k (by rw [← HN.out]; exact hlt)
      obtain ⟨z, hz⟩ : ∃ z, zs.getD k 0 = z := ⟨_, rfl⟩
      rw [hz] at hcell
      have HZ := Lib.hid hz
      clear hz
      by_cases h0 : z = 0
      · have h1 : (z == 0) = true := by simp [h0]
        have h2 : (z != 0) = false := by simp [h0]
        clear h0
        go_wp2
        go_round
        case rel => exact ⟨k + 1, by omega, by go_num, all_snoc zs k z (by rw [← HN.out]; exact hlt) HZ.out HA.out h1⟩
        case measure => simp [intOf]; omega
      · have h1 : (z == 0) = false := by simp [h0]
        have h2 : (z != 0) = true := by simp [h0]
        clear h0
        go_wp2
        go_ret
        exact ⟨ret_bool (by rw [HR.out, all_no zs k z (by rw [← HN.out]; exact hlt) HZ.out h1]), rfl⟩
    · go_wp2
      go_ret
      have := HA.out
      rw [List.take_of_length_le (by rw [← HN.out]; omega)] at this
      exact ⟨ret_bool (by rw [HR.out, this]), rfl⟩
theorem cell_arr (w : World) (C : Array Value) (t : TypeId) (b i : Nat) (v : Value) (hb : b = w.heap.size) (h : C[i]? = some v) : (w.alloc (.cells C t)).cell? ⟨b, 0 + i, none⟩ = some v := by
  subst hb
  rw [Nat.zero_add, World.cell?_alloc_new, h]
theorem ok1 (x1 : Int) (r : Bool) (hr : [x1].all (· == 0) = r) (b : Nat) (w : World) (hb : b = w.heap.size) :
    Calls Tryd.prog 27 #[.slice (some ⟨b, 0, none⟩) 1 1] (w.alloc (.cells #[.int .i64 x1] 23)) fun e w' => e = .returned (.bool r) ∧ w.alloc (.cells #[.int .i64 x1] 23) = w' := by
  have h := ok_c [x1] b 0 1 (w.alloc (.cells #[.int .i64 x1] 23)) (by simp) (by
    intro i hi
    refine cell_arr w _ _ b i _ hb ?_
    rcases i with _ | i
    all_goals first | rfl | (simp at hi; done) | (simp at hi; omega))
  rw [hr] at h
  exact h
theorem ok2 (x1 x2 : Int) (r : Bool) (hr : [x1, x2].all (· == 0) = r) (b : Nat) (w : World) (hb : b = w.heap.size) :
    Calls Tryd.prog 27 #[.slice (some ⟨b, 0, none⟩) 2 2] (w.alloc (.cells #[.int .i64 x1, .int .i64 x2] 23)) fun e w' => e = .returned (.bool r) ∧ w.alloc (.cells #[.int .i64 x1, .int .i64 x2] 23) = w' := by
  have h := ok_c [x1, x2] b 0 2 (w.alloc (.cells #[.int .i64 x1, .int .i64 x2] 23)) (by simp) (by
    intro i hi
    refine cell_arr w _ _ b i _ hb ?_
    rcases i with _ | _ | i
    all_goals first | rfl | (simp at hi; done) | (simp at hi; omega))
  rw [hr] at h
  exact h
theorem ok3 (x1 x2 x3 : Int) (r : Bool) (hr : [x1, x2, x3].all (· == 0) = r) (b : Nat) (w : World) (hb : b = w.heap.size) :
    Calls Tryd.prog 27 #[.slice (some ⟨b, 0, none⟩) 3 3] (w.alloc (.cells #[.int .i64 x1, .int .i64 x2, .int .i64 x3] 23)) fun e w' => e = .returned (.bool r) ∧ w.alloc (.cells #[.int .i64 x1, .int .i64 x2, .int .i64 x3] 23) = w' := by
  have h := ok_c [x1, x2, x3] b 0 3 (w.alloc (.cells #[.int .i64 x1, .int .i64 x2, .int .i64 x3] 23)) (by simp) (by
    intro i hi
    refine cell_arr w _ _ b i _ hb ?_
    rcases i with _ | _ | _ | i
    all_goals first | rfl | (simp at hi; done) | (simp at hi; omega))
  rw [hr] at h
  exact h
theorem ok4 (x1 x2 x3 x4 : Int) (r : Bool) (hr : [x1, x2, x3, x4].all (· == 0) = r) (b : Nat) (w : World) (hb : b = w.heap.size) :
    Calls Tryd.prog 27 #[.slice (some ⟨b, 0, none⟩) 4 4] (w.alloc (.cells #[.int .i64 x1, .int .i64 x2, .int .i64 x3, .int .i64 x4] 23)) fun e w' => e = .returned (.bool r) ∧ w.alloc (.cells #[.int .i64 x1, .int .i64 x2, .int .i64 x3, .int .i64 x4] 23) = w' := by
  have h := ok_c [x1, x2, x3, x4] b 0 4 (w.alloc (.cells #[.int .i64 x1, .int .i64 x2, .int .i64 x3, .int .i64 x4] 23)) (by simp) (by
    intro i hi
    refine cell_arr w _ _ b i _ hb ?_
    rcases i with _ | _ | _ | _ | i
    all_goals first | rfl | (simp at hi; done) | (simp at hi; omega))
  rw [hr] at h
  exact h
theorem ok5 (x1 x2 x3 x4 x5 : Int) (r : Bool) (hr : [x1, x2, x3, x4, x5].all (· == 0) = r) (b : Nat) (w : World) (hb : b = w.heap.size) :
    Calls Tryd.prog 27 #[.slice (some ⟨b, 0, none⟩) 5 5] (w.alloc (.cells #[.int .i64 x1, .int .i64 x2, .int .i64 x3, .int .i64 x4, .int .i64 x5] 23)) fun e w' => e = .returned (.bool r) ∧ w.alloc (.cells #[.int .i64 x1, .int .i64 x2, .int .i64 x3, .int .i64 x4, .int .i64 x5] 23) = w' := by
  have h := ok_c [x1, x2, x3, x4, x5] b 0 5 (w.alloc (.cells #[.int .i64 x1, .int .i64 x2, .int .i64 x3, .int .i64 x4, .int .i64 x5] 23)) (by simp) (by
    intro i hi
    refine cell_arr w _ _ b i _ hb ?_
    rcases i with _ | _ | _ | _ | _ | i
    all_goals first | rfl | (simp at hi; done) | (simp at hi; omega))
  rw [hr] at h
  exact h
theorem ok6 (x1 x2 x3 x4 x5 x6 : Int) (r : Bool) (hr : [x1, x2, x3, x4, x5, x6].all (· == 0) = r) (b : Nat) (w : World) (hb : b = w.heap.size) :
    Calls Tryd.prog 27 #[.slice (some ⟨b, 0, none⟩) 6 6] (w.alloc (.cells #[.int .i64 x1, .int .i64 x2, .int .i64 x3, .int .i64 x4, .int .i64 x5, .int .i64 x6] 23)) fun e w' => e = .returned (.bool r) ∧ w.alloc (.cells #[.int .i64 x1, .int .i64 x2, .int .i64 x3, .int .i64 x4, .int .i64 x5, .int .i64 x6] 23) = w' := by
  have h := ok_c [x1, x2, x3, x4, x5, x6] b 0 6 (w.alloc (.cells #[.int .i64 x1, .int .i64 x2, .int .i64 x3, .int .i64 x4, .int .i64 x5, .int .i64 x6] 23)) (by simp) (by
    intro i hi
    refine cell_arr w _ _ b i _ hb ?_
    rcases i with _ | _ | _ | _ | _ | _ | i
    all_goals first | rfl | (simp at hi; done) | (simp at hi; omega))
  rw [hr] at h
  exact h
theorem ok7 (x1 x2 x3 x4 x5 x6 x7 : Int) (r : Bool) (hr : [x1, x2, x3, x4, x5, x6, x7].all (· == 0) = r) (b : Nat) (w : World) (hb : b = w.heap.size) :
    Calls Tryd.prog 27 #[.slice (some ⟨b, 0, none⟩) 7 7] (w.alloc (.cells #[.int .i64 x1, .int .i64 x2, .int .i64 x3, .int .i64 x4, .int .i64 x5, .int .i64 x6, .int .i64 x7] 23)) fun e w' => e = .returned (.bool r) ∧ w.alloc (.cells #[.int .i64 x1, .int .i64 x2, .int .i64 x3, .int .i64 x4, .int .i64 x5, .int .i64 x6, .int .i64 x7] 23) = w' := by
  have h := ok_c [x1, x2, x3, x4, x5, x6, x7] b 0 7 (w.alloc (.cells #[.int .i64 x1, .int .i64 x2, .int .i64 x3, .int .i64 x4, .int .i64 x5, .int .i64 x6, .int .i64 x7] 23)) (by simp) (by
    intro i hi
    refine cell_arr w _ _ b i _ hb ?_
    rcases i with _ | _ | _ | _ | _ | _ | _ | i
    all_goals first | rfl | (simp at hi; done) | (simp at hi; omega))
  rw [hr] at h
  exact h
end OkC
end Go.Proofs.YtjihapnplfdmmaaDoor
