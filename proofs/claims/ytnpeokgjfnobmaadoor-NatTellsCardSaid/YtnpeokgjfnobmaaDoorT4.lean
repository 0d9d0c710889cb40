/-
  Texts glued together for a claim: Ok N17 N18 N20 NT0 Held3 NT1 N19 NK1 NK2 NK3.
-/
import Derived.Test.YtnpeokgjfnobmaaDoorT3
import Derived.Test.YtnpeokgjfnobmaaDoorProg
import Derived.WalkKit
import Derived.WalkLawsBesides
import Derived.LoopTactic
import Derived.Lib.Hide
import Derived.Outline
import Derived.Lib.TrailingZeros
/-
  ulpkeep.ok: true just where all errors handed in are OK; it only reads.
-/
namespace Go.Proofs.YtnpeokgjfnobmaaDoor
set_option linter.unusedVariables false
set_option linter.unusedSimpArgs false
open Go.RowKit
set_option linter.unusedVariables false
namespace OkC
theorem all_snoc (zs : List Int) (k : Nat) (z : Int) (hk : k < zs.length) (hz : zs.getD k 0 = z) (ha : (zs.take k).all (· == 0) = true) (h : (z == 0) = true) :
    (zs.take (k + 1)).all (· == 0) = true := by
  rw [List.take_succ_eq_append_getElem hk, List.all_append, ha]
  rw [List.getD_eq_getElem?_getD, List.getElem?_eq_getElem hk] at hz
  simp at hz
  simp [hz, h]
theorem all_no (zs : List Int) (k : Nat) (z : Int) (hk : k < zs.length) (hz : zs.getD k 0 = z) (h : (z == 0) = false) : zs.all (· == 0) = false := by
  rw [List.getD_eq_getElem?_getD, List.getElem?_eq_getElem hk] at hz
  simp at hz
  rw [List.all_eq_false]
  exact ⟨zs[k], List.getElem_mem hk, by rw [hz]; simpa using h⟩
theorem ok_c (zs : List Int) (b off cap : Nat) (w : World) (hn : zs.length ≤ 1000)
    (hc : ∀ i, i < zs.length → w.cell? ⟨b, off + i, none⟩ = some (.int .i64 (zs.getD i 0))) :
    Calls Tryd.prog 50 #[.slice (some ⟨b, off, none⟩) zs.length cap] w fun e w' => e = .returned (.bool (zs.all (· == 0))) ∧ w = w' := by
  have HC := Lib.hid hc
  clear hc
  obtain ⟨r, hr⟩ : ∃ r, r = zs.all (· == 0) := ⟨_, rfl⟩
  rw [← hr]
  have HR := Lib.hid hr
  clear hr
  obtain ⟨n, hn'⟩ : ∃ n, n = zs.length := ⟨_, rfl⟩
  rw [← hn'] at hn ⊢
  have HN := Lib.hid hn'
  clear hn'
  go_enter Tryd.func50, Tryd.ntmps50
  go_wp2
  go_loop [7] (fun i => ∃ k : Nat, k ≤ n ∧ i = .int .i64 k ∧ (zs.take k).all (· == 0) = true) (fun i => n - (intOf i).toNat)
  case atStart => exact ⟨0, Nat.zero_le _, rfl, by simp⟩
  case round =>
    obtain ⟨k, hk, rfl, hall⟩ := hrel
    have HA := Lib.hid hall
    clear hall
    by_cases hlt : k < n
    · have hcell := HC.out k (by rw [← HN.out]; exact hlt)
      obtain ⟨z, hz⟩ : ∃ z, zs.getD k 0 = z := ⟨_, rfl⟩
      rw [hz] at hcell
      have HZ := Lib.hid hz
      clear hz
      by_cases h0 : z = 0
      · have h1 : (z == 0) = true := by simp [h0]
        have h2 : (z != 0) = false := by simp [h0]
        clear h0
        go_wp2
        go_round
        case rel => exact ⟨k + 1, by omega, by go_num, all_snoc zs k z (by rw [← HN.out]; exact hlt) HZ.out HA.out h1⟩
        case measure => simp [intOf]; omega
      · have h1 : (z == 0) = false := by simp [h0]
        have h2 : (z != 0) = true := by simp [h0]
        clear h0
        go_wp2
        go_ret
        exact ⟨ret_bool (by rw [HR.out, all_no zs k z (by rw [← HN.out]; exact hlt) HZ.out h1]), rfl⟩
    · go_wp2
      go_ret
      have := HA.out
      rw [List.take_of_length_le (by rw [← HN.out]; omega)] at this
      exact ⟨ret_bool (by rw [HR.out, this]), rfl⟩
theorem cell_arr (w : World) (C : Array Value) (t : TypeId) (b i : Nat) (v : Value) (hb : b = w.heap.size) (h : C[i]? = some v) : (w.alloc (.cells C t)).cell? ⟨b, 0 + i, none⟩ = some v := by
  subst hb
  rw [Nat.zero_add, World.cell?_alloc_new, h]
theorem ok1 (x1 : Int) (r : Bool) (hr : [x1].all (· == 0) = r) (b : Nat) (w : World) (hb : b = w.heap.size) :
    Calls Tryd.prog 50 #[.slice (some ⟨b, 0, none⟩) 1 1] (w.alloc (.cells #[.int .i64 x1] 23)) fun e w' => e = .returned (.bool r) ∧ w.alloc (.cells #[.int .i64 x1] 23) = w' := by
  have h := ok_c [x1] b 0 1 (w.alloc (.cells #[.int .i64 x1] 23)) (by simp) (by
    intro i hi
    refine cell_arr w _ _ b i _ hb ?_
    rcases i with _ | i
    all_goals first | rfl | (simp at hi; done) | (simp at hi; omega))
  rw [hr] at h
  exact h
theorem ok2 (x1 x2 : Int) (r : Bool) (hr : [x1, x2].all (· == 0) = r) (b : Nat) (w : World) (hb : b = w.heap.size) :
    Calls Tryd.prog 50 #[.slice (some ⟨b, 0, none⟩) 2 2] (w.alloc (.cells #[.int .i64 x1, .int .i64 x2] 23)) fun e w' => e = .returned (.bool r) ∧ w.alloc (.cells #[.int .i64 x1, .int .i64 x2] 23) = w' := by
  have h := ok_c [x1, x2] b 0 2 (w.alloc (.cells #[.int .i64 x1, .int .i64 x2] 23)) (by simp) (by
    intro i hi
    refine cell_arr w _ _ b i _ hb ?_
    rcases i with _ | _ | i
    all_goals first | rfl | (simp at hi; done) | (simp at hi; omega))
  rw [hr] at h
  exact h
theorem ok3 (x1 x2 x3 : Int) (r : Bool) (hr : [x1, x2, x3].all (· == 0) = r) (b : Nat) (w : World) (hb : b = w.heap.size) :
    Calls Tryd.prog 50 #[.slice (some ⟨b, 0, none⟩) 3 3] (w.alloc (.cells #[.int .i64 x1, .int .i64 x2, .int .i64 x3] 23)) fun e w' => e = .returned (.bool r) ∧ w.alloc (.cells #[.int .i64 x1, .int .i64 x2, .int .i64 x3] 23) = w' := by
  have h := ok_c [x1, x2, x3] b 0 3 (w.alloc (.cells #[.int .i64 x1, .int .i64 x2, .int .i64 x3] 23)) (by simp) (by
    intro i hi
    refine cell_arr w _ _ b i _ hb ?_
    rcases i with _ | _ | _ | i
    all_goals first | rfl | (simp at hi; done) | (simp at hi; omega))
  rw [hr] at h
  exact h
theorem ok4 (x1 x2 x3 x4 : Int) (r : Bool) (hr : [x1, x2, x3, x4].all (· == 0) = r) (b : Nat) (w : World) (hb : b = w.heap.size) :
    Calls Tryd.prog 50 #[.slice (some ⟨b, 0, none⟩) 4 4] (w.alloc (.cells #[.int .i64 x1, .int .i64 x2, .int .i64 x3, .int .i64 x4] 23)) fun e w' => e = .returned (.bool r) ∧ w.alloc (.cells #[.int .i64 x1, .int .i64 x2, .int .i64 x3, .int .i64 x4] 23) = w' := by
  have h := ok_c [x1, x2, x3, x4] b 0 4 (w.alloc (.cells #[.int .i64 x1, .int .i64 x2, .int .i64 x3, .int .i64 x4] 23)) (by simp) (by
    intro i hi
    refine cell_arr w _ _ b i _ hb ?_
    rcases i with _ | _ | _ | _ | i
    all_goals first | rfl | (simp at hi; done) | (simp at hi; omega))
  rw [hr] at h
  exact h
theorem ok5 (x1 x2 x3 x4 x5 : Int) (r : Bool) (hr : [x1, x2, x3, x4, x5].all (· == 0) = r) (b : Nat) (w : World) (hb : b = w.heap.size) :
    Calls Tryd.prog 50 #[.slice (some ⟨b, 0, none⟩) 5 5] (w.alloc (.cells #[.int .i64 x1, .int .i64 x2, .int .i64 x3, .int .i64 x4, .int .i64 x5] 23)) fun e w' => e = .returned (.bool r) ∧ w.alloc (.cells #[.int .i64 x1, .int .i64 x2, .int .i64 x3, .int .i64 x4, .int .i64 x5] 23) = w' := by
  have h := ok_c [x1, x2, x3, x4, x5] b 0 5 (w.alloc (.cells #[.int .i64 x1, .int .i64 x2, .int .i64 x3, .int .i64 x4, .int .i64 x5] 23)) (by simp) (by
    intro i hi
    refine cell_arr w _ _ b i _ hb ?_
    rcases i with _ | _ | _ | _ | _ | i
    all_goals first | rfl | (simp at hi; done) | (simp at hi; omega))
  rw [hr] at h
  exact h
theorem ok6 (x1 x2 x3 x4 x5 x6 : Int) (r : Bool) (hr : [x1, x2, x3, x4, x5, x6].all (· == 0) = r) (b : Nat) (w : World) (hb : b = w.heap.size) :
    Calls Tryd.prog 50 #[.slice (some ⟨b, 0, none⟩) 6 6] (w.alloc (.cells #[.int .i64 x1, .int .i64 x2, .int .i64 x3, .int .i64 x4, .int .i64 x5, .int .i64 x6] 23)) fun e w' => e = .returned (.bool r) ∧ w.alloc (.cells #[.int .i64 x1, .int .i64 x2, .int .i64 x3, .int .i64 x4, .int .i64 x5, .int .i64 x6] 23) = w' := by
  have h := ok_c [x1, x2, x3, x4, x5, x6] b 0 6 (w.alloc (.cells #[.int .i64 x1, .int .i64 x2, .int .i64 x3, .int .i64 x4, .int .i64 x5, .int .i64 x6] 23)) (by simp) (by
    intro i hi
    refine cell_arr w _ _ b i _ hb ?_
    rcases i with _ | _ | _ | _ | _ | _ | i
    all_goals first | rfl | (simp at hi; done) | (simp at hi; omega))
  rw [hr] at h
  exact h
theorem ok7 (x1 x2 x3 x4 x5 x6 x7 : Int) (r : Bool) (hr : [x1, x2, x3, x4, x5, x6, x7].all (· == 0) = r) (b : Nat) (w : World) (hb : b = w.heap.size) :
    Calls Tryd.prog 50 #[.slice (some ⟨b, 0, none⟩) 7 7] (w.alloc (.cells #[.int .i64 x1, .int .i64 x2, .int .i64 x3, .int .i64 x4, .int .i64 x5, .int .i64 x6, .int .i64 x7] 23)) fun e w' => e = .returned (.bool r) ∧ w.alloc (.cells #[.int .i64 x1, .int .i64 x2, .int .i64 x3, .int .i64 x4, .int .i64 x5, .int .i64 x6, .int .i64 x7] 23) = w' := by
  have h := ok_c [x1, x2, x3, x4, x5, x6, x7] b 0 7 (w.alloc (.cells #[.int .i64 x1, .int .i64 x2, .int .i64 x3, .int .i64 x4, .int .i64 x5, .int .i64 x6, .int .i64 x7] 23)) (by simp) (by
    intro i hi
    refine cell_arr w _ _ b i _ hb ?_
    rcases i with _ | _ | _ | _ | _ | _ | _ | i
    all_goals first | rfl | (simp at hi; done) | (simp at hi; omega))
  rw [hr] at h
  exact h
end OkC
end Go.Proofs.YtnpeokgjfnobmaaDoor

/-
  slices.Equal of limbs; package nat: Shift up, and its errors; ulpkeep.natLives.
-/
namespace Go.Proofs.YtnpeokgjfnobmaaDoor
set_option linter.unusedVariables false
set_option linter.unusedSimpArgs false
open Go.RowKit
set_option linter.unusedVariables false
namespace NC
open L
open Z (Nz Tz cmpv)
theorem Equal_c (s t : Value) (L M : List Int) (w : World) (hs : Sl .u32 w s L) (ht : Sl .u32 w t M) (bL : L.length ≤ 9223372036854775807) (bM : M.length ≤ 9223372036854775807) :
    Calls Tryd.prog 31 #[s, t] w (RetQ w (.bool (decide (L = M)))) := by
  obtain ⟨n, hn⟩ : ∃ n, n = L.length := ⟨_, rfl⟩
  obtain ⟨m, hm⟩ : ∃ m, m = M.length := ⟨_, rfl⟩
  obtain ⟨A, c, rfl, hc, hcL⟩ := hs.open_
  obtain ⟨B, d, rfl, hd, hcM⟩ := ht.open_
  rw [← hn] at bL hc hcL ⊢
  rw [← hm] at bM hd hcM ⊢
  obtain ⟨r, hr⟩ : ∃ r, r = decide (L = M) := ⟨_, rfl⟩
  rw [← hr]
  have HR := Lib.hid hr
  have HN := Lib.hid hn
  have HM := Lib.hid hm
  have CL := Lib.hid hcL
  have CM := Lib.hid hcM
  clear hr hn hm hcL hcM hs ht
  by_cases h0 : n = m
  · subst h0
    have e1 : ((n : Int) != (n : Int)) = false := by simp
    go_enter Tryd.func31, Tryd.ntmps31
    go_wp2
    clear e1
    go_loopw [13] (fun i wr => ∃ k : Nat, k ≤ n ∧ i = .int .i64 k ∧ (∃ q, wr = w.drewN q) ∧ Hid (L.take k = M.take k)) (fun i _ => n - (intOf i).toNat)
    case atStart => exact ⟨0, by omega, rfl, ⟨0, rfl⟩, by unfold Hid; simp⟩
    case round =>
      obtain ⟨k, hk, rfl, ⟨q, rfl⟩, hd⟩ := hrel
      by_cases hk0 : k < n
      · obtain ⟨ad, rfl, hb1, hx⟩ := CL.out k hk0
        obtain ⟨ad2, rfl, hb2, hy⟩ := CM.out k hk0
        obtain ⟨x, hX⟩ : ∃ x, L.getD k 0 = x := ⟨_, rfl⟩
        obtain ⟨y, hY⟩ : ∃ y, M.getD k 0 = y := ⟨_, rfl⟩
        rw [hX] at hx
        rw [hY] at hy
        have i1 : (k : Int) < (n : Int) := by omega
        have eL : L[k]'(by rw [← HN.out]; exact hk0) = x := by rw [← hX, List.getD_eq_getElem?_getD, List.getElem?_eq_getElem (by rw [← HN.out]; exact hk0)]; rfl
        have eM : M[k]'(by rw [← HM.out]; exact hk0) = y := by rw [← hY, List.getD_eq_getElem?_getD, List.getElem?_eq_getElem (by rw [← HM.out]; exact hk0)]; rfl
        by_cases hxy : x = y
        · have e1 : (x != y) = false := by simp [hxy]
          have HD2 : Hid (L.take (k + 1) = M.take (k + 1)) := by
            unfold Hid
            rw [List.take_succ_eq_append_getElem (by rw [← HN.out]; exact hk0), List.take_succ_eq_append_getElem (by rw [← HM.out]; exact hk0), eL, eM, hd.out, hxy]
          clear hxy eL eM hX hY hb1 hb2
          go_wp2
          go_region
          go_wp2
          exact ⟨⟨k + 1, by omega, by simp, ⟨q + 1, rfl⟩, HD2.out⟩, by simp only [intOf]; omega⟩
        · have e1 : (x != y) = true := by simp [hxy]
          have HE : r = false := by
            rw [HR.out]
            simp only [decide_eq_false_iff_not]
            intro e
            apply hxy
            rw [← eL, ← eM]
            simp only [e]
          have HE := Lib.hid HE
          clear hxy eL eM hX hY hb1 hb2
          go_wp2
          go_region
          go_wp2
          go_ret
          exact ⟨ret_bool HE.out.symm, q + 1, rfl⟩
      · obtain rfl : n = k := by omega
        have HE : r = true := by
          rw [HR.out]
          have := hd.out
          rw [HN.out, List.take_length, ← HN.out, HM.out, List.take_length] at this
          simp [this]
        have HE := Lib.hid HE
        go_wp2
        go_ret
        exact ⟨ret_bool HE.out.symm, q, rfl⟩
  · have e1 : ((n : Int) != (m : Int)) = true := by rw [bne_iff_ne]; omega
    have HE : r = false := by
      rw [HR.out]
      simp only [decide_eq_false_iff_not]
      intro e
      apply h0
      rw [HN.out, HM.out, e]
    have HE := Lib.hid HE
    clear h0
    go_enter Tryd.func31, Tryd.ntmps31
    go_wp2
    go_ret
    exact ⟨ret_bool HE.out.symm, 0, rfl⟩
/-- two slices in normal form: equal where their numbers are -/
theorem equal_nv (s t : Value) (y z : Int) (w : World) (hs : NV w s y) (ht : NV w t z) (b1 : y < 4294967296 ^ 3000) (b2 : z < 4294967296 ^ 3000) : Calls Tryd.prog 31 #[s, t] w (RetQ w (.bool (decide (y = z)))) := by
  obtain ⟨L, l1, l2, l3, l4⟩ := hs
  obtain ⟨M, m1, m2, m3, m4⟩ := ht
  have hL : L.length ≤ 3000 := len_le l2 l3 (by rw [l4]; exact b1)
  have hM : M.length ≤ 3000 := len_le m2 m3 (by rw [m4]; exact b2)
  have h := Equal_c s t L M w l1 m1 (by omega) (by omega)
  have e : decide (L = M) = decide (y = z) := by
    apply decide_eq_decide.2
    constructor
    · intro e; rw [← l4, ← m4, e]
    · intro e; exact lv_inj l2 m2 l3 m3 (by rw [l4, m4, e])
  rwa [e] at h
/-- what Shift tells -/
def RetSh (w : World) (er z : Int) (b : Bool) (e : Ending) (w' : World) : Prop := ∃ A n c, e = .returned (.tuple #[.slice A n c, .bool b, .int .i64 er]) ∧ NV w' (.slice A n c) z ∧ Below w.heap.size w w'
theorem RetSh.err {w w' : World} {er : Int} (hb : Below w.heap.size w w') : RetSh w er 0 false (.returned (.tuple #[.slice none 0 0, .bool false, .int .i64 er])) w' := ⟨none, 0, 0, rfl, NV.nil _ _ _, hb⟩
theorem ShiftErr_c (v : Value) (l : List Int) (n : Int) (w : World) (hs : Sl .u32 w v l) (hl : l.length ≤ 9223372036854775807) (h : chk l ≠ 0) : Calls Tryd.prog 11 #[v, .int .i64 n] w (RetSh w (chk l) 0 false) := by
  have C := Lib.hid (Check_c v l w hs hl)
  obtain ⟨r, hr⟩ : ∃ r, r = chk l := ⟨_, rfl⟩
  rw [← hr] at C h ⊢
  have e1 : (r != 0) = true := by simp [h]
  clear hs hl hr h
  go_enter Tryd.func11, Tryd.ntmps11
  go_wp2_with (first | (go_at_call 51; (with_reducible refine (C.out).mono ?_); rintro e w' ⟨rfl, rfl⟩))
  go_ret3
  exact RetSh.err (Below.refl _ _)
theorem ShiftFar_c (v : Value) (l : List Int) (n : Int) (w : World) (hs : Sl .u32 w v l) (hl : l.length ≤ 9223372036854775807) (h : chk l = 0) (hn : n < -20000 ∨ 20000 < n) : Calls Tryd.prog 11 #[v, .int .i64 n] w (RetSh w 1 0 false) := by
  have C := Lib.hid (Check_c v l w hs hl)
  rw [h] at C
  clear hs hl h
  rcases hn with hn | hn
  · go_enter Tryd.func11, Tryd.ntmps11
    go_wp2_with (first | (go_at_call 51; (with_reducible refine (C.out).mono ?_); rintro e w' ⟨rfl, rfl⟩))
    go_ret3
    exact RetSh.err (Below.refl _ _)
  · have h2 : ¬ n < -20000 := by omega
    go_enter Tryd.func11, Tryd.ntmps11
    go_wp2_with (first | (go_at_call 51; (with_reducible refine (C.out).mono ?_); rintro e w' ⟨rfl, rfl⟩))
    go_ret3
    exact RetSh.err (Below.refl _ _)
theorem ShiftUp_c (v : Value) (l : List Int) (n : Nat) (w : World) (hs : Sl .u32 w v l) (Ll : Lim l) (h : chk l = 0) (hn : n ≤ 20000) : Calls Tryd.prog 11 #[v, .int .i64 n] w (RetSh w 0 (lv l * 2 ^ n) false) := by
  have h1 := chk_ok.1 h
  have C := Lib.hid (Check_c v l w hs (by omega))
  have S := Lib.hid (shiftUp_c v l n w hs Ll (by omega) (by omega))
  rw [h] at C
  generalize lv l * 2 ^ n = z at *
  have h2 : ¬ (n : Int) < -20000 := by omega
  have h3 : ¬ (20000 : Int) < n := by omega
  have h4 : ¬ (n : Int) < 0 := by omega
  clear hs Ll h h1
  go_enter Tryd.func11, Tryd.ntmps11
  go_wp2_with (first | (go_at_call 51; (with_reducible refine (C.out).mono ?_); rintro e w' ⟨rfl, rfl⟩) | (go_at_call 55; (with_reducible refine (S.out).mono ?_); rintro e w2 ⟨A, m, c, rfl, hv, hb⟩))
  go_ret3
  exact ⟨A, m, c, rfl, hv, hb⟩
end NC
end Go.Proofs.YtnpeokgjfnobmaaDoor

/-
  Package nat's contracts by numbers: what each argument tells, and its error.
-/
namespace Go.Proofs.YtnpeokgjfnobmaaDoor
set_option linter.unusedVariables false
set_option linter.unusedSimpArgs false
open Go.RowKit
set_option linter.unusedVariables false
namespace NC
open L
open Z (Nz Tz cmpv)
/-- limbs that tell 'z', and what Check tells of them -/
def PV (w : World) (v : Value) (er z : Int) : Prop := ∃ l, Sl .u32 w v l ∧ Lim l ∧ l.length ≤ 9223372036854775807 ∧ chk l = er ∧ lv l = z
def big3 : Int := 4294967296 ^ 3000
theorem PV.below {w w' : World} {v : Value} {er z : Int} (h : PV w v er z) (hb : Below w.heap.size w w') : PV w' v er z := by
  obtain ⟨l, h1, h2⟩ := h
  exact ⟨l, h1.below hb, h2⟩
theorem PV.drewN {w : World} {v : Value} {er z : Int} (h : PV w v er z) (k : Nat) : PV (w.drewN k) v er z := h
theorem PV.nv {w : World} {v : Value} {z : Int} (h : PV w v 0 z) : NV w v z := by
  obtain ⟨l, h1, h2, h3, h4, h5⟩ := h
  exact ⟨l, h1, h2, (chk_ok.1 h4).2, h5⟩
theorem PV.small {w : World} {v : Value} {er z : Int} (h : PV w v er z) : 0 ≤ z ∧ (er = 0 → z < 4294967296 ^ 400) := by
  obtain ⟨l, h1, h2, h3, h4, h5⟩ := h
  refine ⟨by rw [← h5]; exact lv_nonneg h2, fun e => ?_⟩
  rw [e] at h4
  rw [← h5]
  exact Int.lt_of_lt_of_le (lv_lt h2) (pow_mono (chk_ok.1 h4).1)
/-- the error of limbs in normal form: too many -/
def erz (z : Int) : Int := if z < 4294967296 ^ 400 then 0 else 2
theorem NV.pv {w : World} {v : Value} {z : Int} (h : NV w v z) (hz : z < big3) : PV w v (erz z) z := by
  obtain ⟨l, h1, h2, h3, h4⟩ := h
  have hl : l.length ≤ 3000 := len_le h2 h3 (by rw [h4]; exact hz)
  refine ⟨l, h1, h2, by omega, ?_, h4⟩
  unfold erz
  by_cases hs : z < 4294967296 ^ 400
  · rw [if_pos hs]
    exact chk_ok.2 ⟨len_le h2 h3 (by rw [h4]; exact hs), h3⟩
  · rw [if_neg hs]
    unfold chk
    rw [if_pos]
    rcases Nat.lt_or_ge 400 l.length with h | h
    · exact h
    · have := Int.lt_of_lt_of_le (lv_lt h2) (pow_mono h)
      omega
/-- the first error of two -/
def ee (a b : Int) : Int := if a ≠ 0 then a else b
theorem ee0 {a b : Int} : ee a b = 0 ↔ a = 0 ∧ b = 0 := by
  unfold ee
  by_cases h : a = 0
  · rw [if_neg (by simpa using h)]; simp [h]
  · rw [if_pos h]; simp [h]
theorem big3_pos : (0 : Int) < big3 := pow_pos 3000
theorem big3_bds {a b : Int} (h1 : a < 4294967296 ^ 400) (h2 : b < 4294967296 ^ 400) (h3 : 0 ≤ a) (h4 : 0 ≤ b) : a + b < big3 ∧ a * b < big3 ∧ a < big3 ∧ b < big3 := by
  unfold big3
  have e : (4294967296 : Int) ^ 400 * 4294967296 ^ 400 = 4294967296 ^ 800 := by rw [← Int.pow_add]
  have h5 : a * b ≤ 4294967296 ^ 400 * 4294967296 ^ 400 := Int.mul_le_mul (Int.le_of_lt h1) (Int.le_of_lt h2) h4 (Int.le_of_lt (pow_pos _))
  have h6 : (4294967296 : Int) ^ 801 = 4294967296 ^ 800 * 4294967296 := Int.pow_succ _ _
  have h7 := pow_pos 800
  have h8 : (4294967296 : Int) ^ 801 ≤ 4294967296 ^ 3000 := pow_mono (by decide)
  have h9 : (4294967296 : Int) ^ 400 ≤ 4294967296 ^ 800 := pow_mono (by decide)
  generalize (4294967296 : Int) ^ 3000 = c3000 at *
  generalize (4294967296 : Int) ^ 801 = c801 at *
  generalize (4294967296 : Int) ^ 800 = c800 at *
  generalize (4294967296 : Int) ^ 400 = c400 at *
  rw [e] at h5
  omega
/-- limbs that are the result of a call, and an error -/
def RetP (w : World) (er z : Int) (e : Ending) (w' : World) : Prop := ∃ A n c, e = .returned (.tuple #[.slice A n c, .int .i64 er]) ∧ PV w' (.slice A n c) (erz z) z ∧ NV w' (.slice A n c) z ∧ Below w.heap.size w w'
theorem RetL.p {w w' : World} {er z : Int} {e : Ending} (h : RetL w er z e w') (hz : z < big3) : RetP w er z e w' := by
  obtain ⟨A, n, c, rfl, hv, hb⟩ := h
  exact ⟨A, n, c, rfl, hv.pv hz, hv, hb⟩
theorem Add_p {u v : Value} {e1 e2 a b : Int} {w : World} (h1 : PV w u e1 a) (h2 : PV w v e2 b) : Calls Tryd.prog 108 #[u, v] w (RetP w (ee e1 e2) (if ee e1 e2 = 0 then a + b else 0)) := by
  have s1 := h1.small
  have s2 := h2.small
  obtain ⟨l, l1, l2, l3, l4, l5⟩ := h1
  obtain ⟨m, m1, m2, m3, m4, m5⟩ := h2
  have hc : chk2 l m = ee e1 e2 := by unfold chk2 ee; rw [l4, m4]
  have h := Add_c u v l m w l1 m1 l3 m3 l2 m2
  rw [hc, l5, m5] at h
  refine h.mono fun e w' h => RetL.p h ?_
  by_cases h0 : ee e1 e2 = 0
  · rw [if_pos h0]
    have h3 := ee0.1 h0
    exact (big3_bds (s1.2 h3.1) (s2.2 h3.2) s1.1 s2.1).1
  · rw [if_neg h0]; exact big3_pos
theorem Mul_p {u v : Value} {e1 e2 a b : Int} {w : World} (h1 : PV w u e1 a) (h2 : PV w v e2 b) : Calls Tryd.prog 80 #[u, v] w (RetP w (ee e1 e2) (if ee e1 e2 = 0 then a * b else 0)) := by
  have s1 := h1.small
  have s2 := h2.small
  obtain ⟨l, l1, l2, l3, l4, l5⟩ := h1
  obtain ⟨m, m1, m2, m3, m4, m5⟩ := h2
  have hc : chk2 l m = ee e1 e2 := by unfold chk2 ee; rw [l4, m4]
  have h := Mul_c u v l m w l1 m1 l3 m3 l2 m2
  rw [hc, l5, m5] at h
  refine h.mono fun e w' h => RetL.p h ?_
  by_cases h0 : ee e1 e2 = 0
  · rw [if_pos h0]
    have h3 := ee0.1 h0
    exact (big3_bds (s1.2 h3.1) (s2.2 h3.2) s1.1 s2.1).2.1
  · rw [if_neg h0]; exact big3_pos
def es (e1 e2 a b : Int) : Int := if ee e1 e2 = 0 then (if a < b then 1 else 0) else ee e1 e2
theorem Sub_p {u v : Value} {e1 e2 a b : Int} {w : World} (h1 : PV w u e1 a) (h2 : PV w v e2 b) : Calls Tryd.prog 110 #[u, v] w (RetP w (es e1 e2 a b) (if es e1 e2 a b = 0 then a - b else 0)) := by
  have s1 := h1.small
  have s2 := h2.small
  obtain ⟨l, l1, l2, l3, l4, l5⟩ := h1
  obtain ⟨m, m1, m2, m3, m4, m5⟩ := h2
  have hc : errSub l m = es e1 e2 a b := by unfold errSub es chk2 ee; rw [l4, m4, l5, m5]
  have h := Sub_c u v l m w l1 m1 l3 m3 l2 m2
  rw [hc, l5, m5] at h
  refine h.mono fun e w' h => RetL.p h ?_
  by_cases h0 : es e1 e2 a b = 0
  · rw [if_pos h0]
    unfold es at h0
    by_cases h4 : ee e1 e2 = 0
    · have h3 := ee0.1 h4
      have := (big3_bds (s1.2 h3.1) (s2.2 h3.2) s1.1 s2.1).2.2.1
      omega
    · rw [if_neg h4] at h0; exact absurd h0 h4
  · rw [if_neg h0]; exact big3_pos
theorem Cmp_p {u v : Value} {e1 e2 a b : Int} {w : World} (h1 : PV w u e1 a) (h2 : PV w v e2 b) : Calls Tryd.prog 97 #[u, v] w (RetQ w (.tuple #[.int .i64 (if ee e1 e2 = 0 then cmpv a b else 0), .int .i64 (ee e1 e2)])) := by
  obtain ⟨l, l1, l2, l3, l4, l5⟩ := h1
  obtain ⟨m, m1, m2, m3, m4, m5⟩ := h2
  have hc : chk2 l m = ee e1 e2 := by unfold chk2 ee; rw [l4, m4]
  have h := Cmp_c u v l m w l1 m1 l3 m3 l2 m2
  rwa [hc, l5, m5] at h
def ed (e1 e2 b : Int) : Int := if ee e1 e2 ≠ 0 then ee e1 e2 else if b = 0 then 1 else 0
def RetDP (w : World) (er q r : Int) (e : Ending) (w' : World) : Prop := ∃ A n c A' n' c', e = .returned (.tuple #[.slice A n c, .slice A' n' c', .int .i64 er]) ∧ PV w' (.slice A n c) (erz q) q ∧ PV w' (.slice A' n' c') (erz r) r ∧ NV w' (.slice A n c) q ∧ NV w' (.slice A' n' c') r ∧ Below w.heap.size w w'
theorem Equal_p {s t : Value} {y z : Int} {w : World} (hs : NV w s y) (ht : NV w t z) (b1 : y < big3) (b2 : z < big3) : Calls Tryd.prog 31 #[s, t] w (RetQ w (.bool (decide (y = z)))) := equal_nv s t y z w hs ht b1 b2
/-- a root -/
def RetRP (w : World) (er z : Int) (e : Ending) (w' : World) : Prop :=
  ∃ A n c b R, e = .returned (.tuple #[.slice A n c, .bool b, .int .i64 er]) ∧ NV w' (.slice A n c) R ∧ Below w.heap.size w w' ∧ Hid (er = 0 → R * R ≤ z ∧ z < (R + 1) * (R + 1) ∧ 0 ≤ R ∧ b = decide (R * R ≠ z)) ∧ Hid (er ≠ 0 → R = 0 ∧ b = false)
theorem Root_p {u : Value} {e1 a : Int} {w : World} (h1 : PV w u e1 a) : Calls Tryd.prog 12 #[u] w (RetRP w e1 a) := by
  obtain ⟨l, l1, l2, l3, l4, l5⟩ := h1
  have h := Root_c u l w l1 l3 l2
  rwa [l4, l5] at h
theorem Text_p {u : Value} {a : Int} {w : World} (h1 : PV w u 0 a) : Calls Tryd.prog 13 #[u] w (RetTx w 0 (bs (dec a.toNat))) := by
  obtain ⟨l, l1, l2, l3, l4, l5⟩ := h1
  have h := Text_c u l w l1 l3 l2
  rwa [l4, l5, if_pos rfl] at h
/-- limbs laid down in new memory -/
theorem PV.lit (w : World) (l : List Int) (hl : Lim l) (hn : l.length ≤ 9223372036854775807) : PV (w.alloc (.cells (l.map (Value.int .u32)).toArray 56)) (.slice (some ⟨w.heap.size, 0, none⟩) l.length l.length) (chk l) (lv l) :=
  ⟨l, Row.sl (L := l) (Blk.new w 56 _) _ (Nat.le_refl _), hl, hn, rfl, rfl⟩
end NC
end Go.Proofs.YtnpeokgjfnobmaaDoor

/-
  math/bits.TrailingZeros32 over its table; package nat: lowBits, Shift.
-/
namespace Go.Proofs.YtnpeokgjfnobmaaDoor
set_option linter.unusedVariables false
set_option linter.unusedSimpArgs false
open Go.RowKit
set_option linter.unusedVariables false
namespace NC
open L
open Z (Nz Tz cmpv)
/-- the library's table as its initialiser lays it -/
def TabD (w : World) : Prop := ∀ j, j < 32 → w.cell? ⟨0, j, none⟩ = some (.int .u8 (Lib.deBruijn32tab.getD j 0))
theorem TabD.below {w w' : World} (h : TabD w) (hb : Below w.heap.size w w') : TabD w' := fun j hj => (hb.cell (World.block_lt_of_cell? w _ (h j hj))).trans (h j hj)
theorem TabD.drewN {w : World} (h : TabD w) (k : Nat) : TabD (w.drewN k) := h
theorem tz_core (x k idx : Nat) (w : World) (hx0 : ((x : Int) == 0) = false)
    (key : bits BinOp.and IntKind.u32 (x : Int) (-(x : Int) % 4294967296) * 125613361 % 4294967296 / 134217728 = (idx : Int))
    (hi : idx < 32) (hk : k < 32) (hcell : w.cell? ⟨0, idx, none⟩ = some (.int .u8 k)) :
    Calls Tryd.prog 83 #[.int .u32 x] w fun e w' => e = .returned (.int .i64 k) ∧ w = w' := by
  go_enter Tryd.func83, Tryd.ntmps83
  go_wp2_with (simp only [key])
  go_ret
  exact ⟨rfl, rfl⟩
theorem tz_key (x a : Nat) (hx : x < 4294967296) (hx0 : x ≠ 0) (hlow : x &&& (4294967296 - x) = a) :
    bits BinOp.and IntKind.u32 (x : Int) (-(x : Int) % 4294967296) * 125613361 % 4294967296 / 134217728 = ((a * 125613361 % 4294967296 / 134217728 : Nat) : Int) := by
  have e1 : -(x : Int) % 4294967296 = ((4294967296 - x : Nat) : Int) := by omega
  rw [e1, and_u32 x _ hx (by omega), hlow]
  omega
/-- trailing noughts of a limb that is not 0: 2^t times an odd number -/
theorem tz_c (x : Int) (w : World) (h0 : 0 < x) (h1 : x < 4294967296) (hT : TabD w) :
    ∃ t : Nat, t < 32 ∧ (∃ m : Int, x = 2 ^ t * (2 * m + 1)) ∧ Calls Tryd.prog 83 #[.int .u32 x] w fun e w' => e = .returned (.int .i64 t) ∧ w = w' := by
  obtain ⟨a, rfl⟩ := Int.eq_ofNat_of_zero_le (Int.le_of_lt h0)
  have ha : a ≠ 0 := by omega
  have hlt : a < 4294967296 := by omega
  obtain ⟨hlow, hk⟩ := Lib.lowest_bit 32 a ha hlt
  obtain ⟨hi, htab⟩ := Lib.deBruijn32_at _ hk
  obtain ⟨m, hm, _⟩ := Lib.ctzFrom_spec 32 a (by omega) hlt
  refine ⟨Lib.ctz 32 a, hk, ⟨m, ?_⟩, ?_⟩
  · have hm2 : a = 2 ^ Lib.ctz 32 a * (2 * m + 1) := by
      have e : Lib.ctz 32 a = Lib.ctzFrom 32 a := by unfold Lib.ctz; rw [if_neg ha]
      rw [e]; exact hm
    have := congrArg (fun n : Nat => (n : Int)) hm2
    simp only [Int.natCast_mul, Int.natCast_pow, Int.natCast_add] at this
    exact this
  · have hcell := hT _ hi
    rw [htab] at hcell
    exact tz_core a _ _ w (by simp; omega) (tz_key a _ hlt ha hlow) hi hk hcell
theorem odd_mod (e n : Nat) (o : Int) : (2 ^ e * (2 * o + 1)) % 2 ^ n ≠ 0 ↔ e < n := by
  constructor
  · intro h
    rcases Nat.lt_or_ge e n with h1 | h1
    · exact h1
    · exfalso
      apply h
      rw [show e = n + (e - n) by omega, Int.pow_add, Int.mul_assoc]
      exact Int.mul_emod_right _ _
  · intro h h1
    have hp := two_pos e
    obtain ⟨q, hq⟩ := Int.dvd_of_emod_eq_zero h1
    rw [show n = e + (n - e - 1) + 1 by omega, Int.pow_succ, Int.pow_add] at hq
    have h2 : 2 ^ e * (2 * o + 1) = 2 ^ e * (2 * (2 ^ (n - e - 1) * q)) := by rw [hq]; grind
    have h3 := Int.eq_of_mul_eq_mul_left (by omega) h2
    omega
/-- the lowest limb that is not 0 tells where the lowest bit is -/
theorem low_spec {l : List Int} (hl : Lim l) {k t : Nat} {x m : Int} (hk : k < l.length) (hz : lv (l.take k) = 0) (hx : l.getD k 0 = x) (ht : t < 32) (hm : x = 2 ^ t * (2 * m + 1)) (n : Nat) : lv l % 2 ^ n ≠ 0 ↔ 32 * k + t < n := by
  have h := lv_split l k hk
  rw [hz, hx, hm] at h
  have e : (4294967296 : Int) = 2 ^ t * (2 * 2 ^ (31 - t)) := by
    rw [← Int.mul_assoc, Int.mul_comm (2 ^ t) 2, Int.mul_assoc, ← Int.pow_add, show t + (31 - t) = 31 by omega]; decide
  have e2 : lv l = 2 ^ (32 * k + t) * (2 * (m + 2 ^ (31 - t) * lv (l.drop (k + 1))) + 1) := by
    rw [h, pow_two, Int.pow_add]
    generalize lv (l.drop (k + 1)) = D
    have e3 : 2 ^ t * (2 * m + 1) + 4294967296 * D = 2 ^ t * (2 * (m + 2 ^ (31 - t) * D) + 1) := by
      have : 4294967296 * D = 2 ^ t * (2 * 2 ^ (31 - t)) * D := by rw [← e]
      rw [this]; grind
    rw [e3]; grind
  rw [e2]
  exact odd_mod _ _ _
theorem lowBits_c (v : Value) (l : List Int) (n : Nat) (w : World) (hs : Sl .u32 w v l) (Ll : Lim l) (hl : l.length ≤ 1000000) (hn : n ≤ 1000000) (hT : TabD w) :
    Calls Tryd.prog 54 #[v, .int .i64 n] w fun e w' => e = .returned (.bool (decide (lv l % 2 ^ n ≠ 0))) ∧ w = w' := by
  obtain ⟨A, c, rfl, hc⟩ := hs.form
  have HS := Lib.hid hs
  have LL := Lib.hid Ll
  have HT := Lib.hid hT
  obtain ⟨x, ex⟩ : ∃ x, l.length = x := ⟨_, rfl⟩
  obtain ⟨r, hr⟩ : ∃ r, r = decide (lv l % 2 ^ n ≠ 0) := ⟨_, rfl⟩
  rw [← hr]
  rw [ex] at hc hl HS ⊢
  have EX := Lib.hid ex
  have HR := Lib.hid hr
  clear hs Ll ex hr hT
  go_enter Tryd.func54, Tryd.ntmps54
  go_wp2
  go_loop [9] (fun i => ∃ k : Nat, k ≤ x ∧ i = .int .i64 k ∧ Hid (lv (l.take k) = 0)) (fun i => x - (intOf i).toNat)
  case atStart => exact ⟨0, by omega, rfl, by show lv _ = 0; simp [lv]⟩
  case round =>
    obtain ⟨k, hk, rfl, hz⟩ := hrel
    by_cases hkx : k < x
    · obtain ⟨ad, c', e, hc', hb, hcell⟩ := HS.out.at_ k (by rw [EX.out]; exact hkx)
      injection e with e1 e2 e3
      subst e1
      clear e2 e3 hc' c' hb
      obtain ⟨q, hq⟩ : ∃ q, l.getD k 0 = q := ⟨_, rfl⟩
      have bq := LL.out.at_ k
      rw [hq] at hcell bq
      by_cases h0 : q = 0
      · have h1 : (q != 0) = false := by simp [h0]
        have HZ2 : Hid (lv (l.take (k + 1)) = 0) := by show lv _ = 0; rw [lv_take_succ, hq, h0, hz.out]; simp
        clear h0 hq
        go_wp2
        go_round
        case rel => exact ⟨k + 1, by omega, by simp, HZ2.out⟩
        case measure => simp [intOf]; omega
      · have h1 : (q != 0) = true := by simp [h0]
        obtain ⟨t, ht, ⟨m, hm⟩, TZ⟩ := tz_c q w (by omega) bq.2 HT.out
        have hsp := low_spec LL.out (by rw [EX.out]; exact hkx) hz.out hq ht hm n
        have TZ := Lib.hid TZ
        have HE : Hid (r = decide ((32 * k + t : Nat) < n)) := by show _ = _; rw [HR.out]; exact decide_eq_decide.2 hsp
        clear h0 hq hm hsp
        go_wp2_with (first | (go_at_call 83; (with_reducible refine (TZ.out).mono ?_); rintro e w' ⟨rfl, rfl⟩))
        go_ret
        refine ⟨ret_bool ?_, rfl⟩
        rw [HE.out]
        apply decide_eq_decide.2
        omega
    · obtain rfl : x = k := by omega
      have HE : Hid (r = false) := by
        show _ = _
        rw [HR.out]
        have := hz.out
        rw [← EX.out, List.take_length] at this
        rw [this]
        simp
      go_wp2
      go_ret
      exact ⟨ret_bool HE.out.symm, rfl⟩
theorem ShiftDown_c (v : Value) (l : List Int) (n : Nat) (w : World) (hs : Sl .u32 w v l) (Ll : Lim l) (h : chk l = 0) (hn : n ≤ 20000) (hn0 : 0 < n) (hT : TabD w) : Calls Tryd.prog 11 #[v, .int .i64 (-(n : Int))] w (RetSh w 0 (lv l / 2 ^ n) (decide (lv l % 2 ^ n ≠ 0))) := by
  have h1 := chk_ok.1 h
  have C := Lib.hid (Check_c v l w hs (by omega))
  have S := Lib.hid (shiftDown_c v l n w hs Ll (by omega) (by omega))
  have LB : Hid (∀ W, Below w.heap.size w W → Calls Tryd.prog 54 #[v, .int .i64 n] W fun e w' => e = .returned (.bool (decide (lv l % 2 ^ n ≠ 0))) ∧ W = w') := fun W hb => lowBits_c v l n W (hs.below hb) Ll (by omega) (by omega) (hT.below hb)
  rw [h] at C
  generalize lv l / 2 ^ n = z at *
  generalize decide (lv l % 2 ^ n ≠ 0) = b at *
  have h2 : ¬ -(n : Int) < -20000 := by omega
  have h3 : ¬ (20000 : Int) < -(n : Int) := by omega
  have h4 : -(n : Int) < 0 := by omega
  clear hs Ll h h1 hT
  go_enter Tryd.func11, Tryd.ntmps11
  go_wp2_with (first | (go_at_call 51; (with_reducible refine (C.out).mono ?_); rintro e w' ⟨rfl, rfl⟩) | (go_at_call 53; (with_reducible refine (S.out).mono ?_); rintro e w2 ⟨A, m, c, rfl, hv, hb⟩) | (go_at_call 54; (with_reducible refine (LB.out _ hb).mono ?_); rintro e w' ⟨rfl, rfl⟩))
  go_ret3
  exact ⟨A, m, c, rfl, hv, hb⟩
end NC
end Go.Proofs.YtnpeokgjfnobmaaDoor

/-
  NatTells: what is needed ahead of the walk.
-/
namespace Go.Proofs.YtnpeokgjfnobmaaDoor
set_option linter.unusedVariables false
set_option linter.unusedSimpArgs false
open Go.RowKit
set_option linter.unusedVariables false
namespace NT
open L NC
open Z (Nz Tz cmpv big)
open ZC (Is ZV ZL ZLF RetZ SS rights right)
theorem NV.zero {w : World} {A : Option Addr} {n c : Nat} (h : NV w (.slice A n c) 0) : n = 0 := by
  obtain ⟨L, h1, h2, h3, h4⟩ := h
  have e := lv_inj h2 Lim.nil h3 (by intro h; exact absurd rfl h) (h4.trans (show (0 : Int) = lv [] from rfl))
  have := h1.len_.1
  rw [this, e]; rfl
theorem small_nat {y : Int} (h0 : 0 ≤ y) (h : y < 4294967296 ^ 3000) : y.natAbs < big 900000 ∧ y.natAbs < big 1000000 := by
  have h1 := ZC.pow2_bigN (32 * 3000) 900000 (by decide) (by decide)
  have h2 := ZC.pow2_bigN (32 * 3000) 1000000 (by decide) (by decide)
  rw [← pow_two] at h1 h2
  generalize (4294967296 : Int) ^ 3000 = c at *
  omega
theorem limbed_nv (s v : Value) (z : Int) (w : World) (hs : NV w s z) (hv : ZV w v z) (hz : z < 4294967296 ^ 3000) : Calls Tryd.prog 19 #[s, v] w fun e w' => e = .returned (.bool true) ∧ Below w.heap.size w w' := by
  obtain ⟨l, h1, h2, h3, h4⟩ := hs
  have hlen : l.length ≤ 3000 := len_le h2 h3 (by rw [h4]; exact hz)
  have hb := lv_big h2 (show l.length ≤ 30000 by omega)
  rw [h4] at hb
  refine (ZC.Limbed_c s v l z w h1 (by omega) h2 hv hb).mono fun e w' h => ⟨?_, h.2⟩
  rw [h.1]
  have : Is l z := ⟨h3, h4⟩
  simp [this]
theorem zlimbs_nv (s : Value) (z : Int) (w : World) (hs : NV w s z) (hz : z < 4294967296 ^ 3000) : Calls Tryd.prog 15 #[s] w (RetZ w z) := by
  obtain ⟨l, h1, h2, h3, h4⟩ := hs
  have hlen : l.length ≤ 3000 := len_le h2 h3 (by rw [h4]; exact hz)
  have := ZC.ZLimbs_c l.length s l w h1 (Nat.le_refl _) (by omega) h2
  rwa [h4] at this
theorem right_chk (l : List Int) : right l = chk l := rfl
theorem rights1 (l : List Int) : rights [l] = chk l := by
  unfold rights
  by_cases h : right l = 0
  · rw [if_pos h, ← right_chk, h]; rfl
  · rw [if_neg h, right_chk]
theorem ss1 {w : World} {u : Value} {l : List Int} (hs : Sl .u32 w u l) : SS (w.alloc (.cells #[u] 22)) (.slice (some ⟨w.heap.size, 0, none⟩) 1 1) [l] := by
  refine ⟨_, 1, rfl, by simp, fun j hj => ?_⟩
  have h1 : [l].length = 1 := rfl
  obtain rfl : j = 0 := by omega
  refine ⟨⟨w.heap.size, 0, none⟩, u, rfl, ?_, hs.alloc _⟩
  exact (Blk.new w 22 #[u]).at_ 0 rfl
theorem Between_t (n a b : Int) (h0 : a ≤ n) (h1 : n ≤ b) (w : World) :
    Calls Tryd.prog 23 #[.int .i64 n, .int .i64 a, .int .i64 b] w fun e w' => e = .returned (.bool true) ∧ w = w' := by
  go_enter Tryd.func23, Tryd.ntmps23
  go_wp2
  go_ret
  exact ⟨rfl, rfl⟩
theorem Between_f (n a b : Int) (h : n < a ∨ b < n) (w : World) :
    Calls Tryd.prog 23 #[.int .i64 n, .int .i64 a, .int .i64 b] w fun e w' => e = .returned (.bool false) ∧ w = w' := by
  by_cases h0 : n < a
  · have h1 : ¬ a ≤ n := by omega
    go_enter Tryd.func23, Tryd.ntmps23
    go_wp2
    go_ret
    exact ⟨rfl, rfl⟩
  · have h1 : a ≤ n := by omega
    have h2 : ¬ n ≤ b := by omega
    go_enter Tryd.func23, Tryd.ntmps23
    go_wp2
    go_ret
    exact ⟨rfl, rfl⟩
theorem right_c (u : Value) (l : List Int) (w : World) (hs : Sl .u32 w u l) (hl : l.length ≤ 9223372036854775807) :
    Calls Tryd.prog 14 #[.slice (some ⟨w.heap.size, 0, none⟩) 1 1] (w.alloc (.cells #[u] 22)) (ZC.RetQ (w.alloc (.cells #[u] 22)) (.int .i64 (chk l))) := by
  rw [← rights1]
  exact ZC.LimbsRight_c _ _ _ (ss1 hs) (by simp) (by intro x hx; simp at hx; rcases hx with rfl; assumption)
set_option maxRecDepth 100000 in
set_option maxHeartbeats 8000000 in
/-- limbs that aren't a number -/
theorem tells_err (A : Option Addr) (l c : Nat) (n E : Int) (w : World) (hE : E ≠ 0)
    (BT : Hid (Calls Tryd.prog 10 #[.slice A l c] w fun e w' => e = .returned (.tuple #[.int .i64 0, .int .i64 E]) ∧ w = w'))
    (SH : Hid (Calls Tryd.prog 11 #[.slice A l c, .int .i64 n] w (RetSh w E 0 false)))
    (RT : Hid (∀ W, Below w.heap.size w W → Calls Tryd.prog 12 #[.slice A l c] W (RetSh W E 0 false)))
    (TX : Hid (∀ W, Below w.heap.size w W → Calls Tryd.prog 13 #[.slice A l c] W (RetTx W E ⟨#[]⟩)))
    (LR : Hid (∀ W, Below w.heap.size w W → Calls Tryd.prog 14 #[.slice (some ⟨W.heap.size, 0, none⟩) 1 1] (W.alloc (.cells #[.slice A l c] 22)) (ZC.RetQ (W.alloc (.cells #[.slice A l c] 22)) (.int .i64 E)))) :
    Calls Tryd.prog 3 #[.slice A l c, .int .i64 n] w fun e w' => e = .returned (.bool true) ∧ Below w.heap.size w w' := by
  have h1 : (E == 0) = false := by simp [hE]
  have h2 : (E != 0) = true := by simp [hE]
  clear hE
  go_enter Tryd.func3, Tryd.ntmps3
  go_wp2_with (first
    | (go_at_call 10; (with_reducible refine (BT.out).mono ?_); rintro e w1 ⟨rfl, rfl⟩)
    | (go_at_call 11; (with_reducible refine (SH.out).mono ?_); rintro e w2 ⟨A2, n2, c2, rfl, hv2, b2⟩; obtain rfl := NV.zero hv2)
    | (go_at_call 12; (with_reducible refine (RT.out w2 b2).mono ?_); rintro e w3 ⟨A3, n3, c3, rfl, hv3, b3⟩; obtain rfl := NV.zero hv3; have B3 := b2.trans (b3.mono b2.size))
    | (go_at_call 13; (with_reducible refine (TX.out w3 B3).mono ?_); rintro e w4 ⟨rfl, b4⟩; have B4 := B3.trans (b4.mono B3.size))
    | (go_at_call 14; (with_reducible refine (LR.out w4 B4).mono ?_); rintro e w5 ⟨rfl, k5, hw5⟩; have B5 : Below w.heap.size w w5 := (by rw [hw5]; have := B4.trans (((Below.refl w4.heap.size w4).alloc (Nat.le_refl _) (.cells #[.slice A l c] 22)).mono B4.size); exact ⟨this.os, this.tape, this.output, this.size, this.block⟩); clear hw5))
  go_ret
  exact ⟨rfl, B5⟩
end NT
end Go.Proofs.YtnpeokgjfnobmaaDoor

/-
  A held region: one of three operations comes up.
-/
namespace Go.Proofs.YtnpeokgjfnobmaaDoor
set_option linter.unusedVariables false
set_option linter.unusedSimpArgs false
open Go.RowKit
set_option linter.unusedVariables false
section
variable {P : Program} {ops : Array Oper} {Q : Exit → Act → World → Prop} {md : Region.Mode} {S : World → Prop} {nl : Nat}
theorem wpAnyL_three {i j k : Nat} {oi oj ok : Oper} {fuel : Nat} {listed : Array Bool} {a : Act} {w : World} (hr : Region.ready md ops listed = [i, j, k]) (hoi : ops[i]? = some oi) (hoj : ops[j]? = some oj) (hok : ops[k]? = some ok)
    (h1 : ∀ K' : Act → World → Prop, Shut (∀ a w, (i < nl → S w) → ((i < nl → S w) → wpAnyL P md ops Q S nl fuel (listed.setIfInBounds i true) a w) → K' a w) → if Region.wanted oi (yielded ops a.tmps) = true then Oper.wp P oi a w K' Q else K' (a.put oi.dst undef) w)
    (h2 : ∀ K' : Act → World → Prop, Shut (∀ a w, (j < nl → S w) → ((j < nl → S w) → wpAnyL P md ops Q S nl fuel (listed.setIfInBounds j true) a w) → K' a w) → if Region.wanted oj (yielded ops a.tmps) = true then Oper.wp P oj a w K' Q else K' (a.put oj.dst undef) w)
    (h3 : ∀ K' : Act → World → Prop, Shut (∀ a w, (k < nl → S w) → ((k < nl → S w) → wpAnyL P md ops Q S nl fuel (listed.setIfInBounds k true) a w) → K' a w) → if Region.wanted ok (yielded ops a.tmps) = true then Oper.wp P ok a w K' Q else K' (a.put ok.dst undef) w) :
    wpAnyL P md ops Q S nl (fuel + 1) listed a w := by
  refine ⟨fun h0 => (by rw [hr] at h0; cases h0), fun m hm => ?_⟩
  rw [hr] at hm
  rcases List.mem_cons.1 hm with rfl | hm
  · exact wpOp_step hoi (fun K' hK => h1 K' (fun a w hS hW => hK a w ⟨hS, hW hS⟩))
  · rcases List.mem_cons.1 hm with rfl | hm
    · exact wpOp_step hoj (fun K' hK => h2 K' (fun a w hS hW => hK a w ⟨hS, hW hS⟩))
    · obtain rfl : m = k := by simpa using hm
      exact wpOp_step hok (fun K' hK => h3 K' (fun a w hS hW => hK a w ⟨hS, hW hS⟩))
end
end Go.Proofs.YtnpeokgjfnobmaaDoor

/-
  NatTells: the walk.
-/
namespace Go.Proofs.YtnpeokgjfnobmaaDoor
set_option linter.unusedVariables false
set_option linter.unusedSimpArgs false
open Go.RowKit
set_option linter.unusedVariables false
namespace NT
open L NC
open Z (Nz Tz cmpv big)
open ZC (Is ZV ZL ZLF RetZ SS rights right)
/-- how the shift ends: out of bounds; up; down -/
def Ways (n z f zx : Int) (bl : Bool) : Prop :=
  ((n < -20000 ∨ 20000 < n) ∧ f = 1 ∧ zx = 0 ∧ bl = false) ∨
  (0 ≤ n ∧ n ≤ 20000 ∧ f = 0 ∧ bl = false ∧ ∃ P : Int, zx = z * P ∧ z * P < 4294967296 ^ 3000 ∧ (∀ W, Calls Tryd.prog 17 #[.int .i64 n] W (RetZ W P)) ∧ P.natAbs < big 1000000) ∨
  (-20000 ≤ n ∧ n < 0 ∧ f = 0 ∧ ∃ P : Int, P ≠ 0 ∧ zx = z / P ∧ z / P < 4294967296 ^ 3000 ∧ bl = decide (0 < z % P) ∧ (z % P).natAbs < big 1000000 ∧ (∀ W, Calls Tryd.prog 17 #[.int .i64 (-n)] W (RetZ W P)) ∧ P.natAbs < big 900000)
/-- quotient and remainder, each in a block of its own -/
def QD (we wx : World) (s18 s19 : Value) (q r : Int) : Prop := ∃ g h bq Aq nq cq br Ar nr cr, s18 = .pointer (some ⟨g, 0, none⟩) ∧ s19 = .pointer (some ⟨h, 0, none⟩) ∧ Blk wx g 34 #[.bool bq, .slice Aq nq cq] ∧ Blk wx h 34 #[.bool br, .slice Ar nr cr] ∧ ZL wx bq Aq nq cq q ∧ ZL wx br Ar nr cr r ∧ Below we.heap.size we wx
theorem qd_set {we W : World} {g h : Nat} {bq br : Bool} {Aq Ar : Option Addr} {nq cq nr cr : Nat} {q r : Int} (D : Below we.heap.size we W) (hg : we.heap.size ≤ g) (hh : we.heap.size ≤ h) (hne : g ≠ h)
    (G : Blk W g 34 #[.bool false, .slice none 0 0]) (H : Blk W h 34 #[.bool false, .slice none 0 0]) (hq : ZL W bq Aq nq cq q) (hr : ZL W br Ar nr cr r) :
    QD we ((((W.setCell ⟨g, 0, none⟩ (.bool bq)).setCell ⟨g, 1, none⟩ (.slice Aq nq cq)).setCell ⟨h, 0, none⟩ (.bool br)).setCell ⟨h, 1, none⟩ (.slice Ar nr cr)) (.pointer (some ⟨g, 0, none⟩)) (.pointer (some ⟨h, 0, none⟩)) q r := by
  have G1 := G.set2 (.bool bq) (.slice Aq nq cq)
  have H1 := H.far2 (Ne.symm hne) (.bool bq) (.slice Aq nq cq)
  have q1 := ZC.ZL.box hq (G.at_ 0 rfl) (G.at_ 1 rfl) (.bool bq) (.slice Aq nq cq)
  have r1 := ZC.ZL.box hr (G.at_ 0 rfl) (G.at_ 1 rfl) (.bool bq) (.slice Aq nq cq)
  exact ⟨g, h, bq, Aq, nq, cq, br, Ar, nr, cr, rfl, rfl, G1.far2 hne _ _, H1.set2 _ _, ZC.ZL.box q1 (H1.at_ 0 rfl) (H1.at_ 1 rfl) _ _, ZC.ZL.box r1 (H1.at_ 0 rfl) (H1.at_ 1 rfl) _ _, below_set2 (below_set2 D hg _ _) hh _ _⟩
set_option maxRecDepth 100000 in
set_option maxHeartbeats 16000000 in
theorem tells_main (A : Option Addr) (l c : Nat) (n z f zx : Int) (bl : Bool) (s : ByteArray) (w : World)
    (hW : Ways n z f zx bl) (hz0 : 0 ≤ z) (hz4 : z < 4294967296 ^ 400) (hs : s = bs (ztext z))
    (BT : Hid (Calls Tryd.prog 10 #[.slice A l c] w (RetBits w 0 z)))
    (SH : Hid (Calls Tryd.prog 11 #[.slice A l c, .int .i64 n] w (RetSh w f zx bl)))
    (RT : Hid (∀ W, Below w.heap.size w W → Calls Tryd.prog 12 #[.slice A l c] W (RetRt W 0 z)))
    (TX : Hid (∀ W, Below w.heap.size w W → Calls Tryd.prog 13 #[.slice A l c] W (RetTx W 0 s)))
    (LR : Hid (∀ W, Below w.heap.size w W → Calls Tryd.prog 14 #[.slice (some ⟨W.heap.size, 0, none⟩) 1 1] (W.alloc (.cells #[.slice A l c] 22)) (ZC.RetQ (W.alloc (.cells #[.slice A l c] 22)) (.int .i64 0))))
    (ZLA : Hid (∀ W, Below w.heap.size w W → Calls Tryd.prog 15 #[.slice A l c] W (RetZ W z))) :
    Calls Tryd.prog 3 #[.slice A l c, .int .i64 n] w fun e w' => e = .returned (.bool true) ∧ Below w.heap.size w w' := by
  have hz3 : z < 4294967296 ^ 3000 := Int.lt_of_lt_of_le hz4 (pow_mono (by decide))
  have hz33 : 3 * z + 1 < 4294967296 ^ 3000 := by
    have h3 : (4294967296 : Int) ^ 401 ≤ 4294967296 ^ 3000 := pow_mono (by decide)
    have h4 : (4294967296 : Int) ^ 401 = 4294967296 ^ 400 * 4294967296 := Int.pow_succ _ _
    generalize (4294967296 : Int) ^ 3000 = c3000 at *
    generalize (4294967296 : Int) ^ 401 = c401 at *
    generalize (4294967296 : Int) ^ 400 = c400 at *
    omega
  have bz := (small_nat hz0 hz3)
  have HW := Lib.hid hW
  have BZ := Lib.hid bz
  have HZ := Lib.hid (And.intro hz0 (And.intro hz3 hz33))
  have TXT : Hid (∀ W v, ZV W v z → Calls Tryd.prog 18 #[v] W fun e w' => e = .returned (.string s) ∧ Below W.heap.size W w') := fun W v hv => by
    rw [hs]; exact ZC.ZText_c v z W hv bz.2
  clear hW hz0 hz4 hs hz3 hz33 bz
  go_enter Tryd.func3, Tryd.ntmps3
  go_upto_region 9 with (first
    | (go_at_call 10; (with_reducible refine (BT.out).mono ?_); rintro e w1 ⟨k, rfl, hk, hk1, hk2, rfl⟩)
    | (go_at_call 11; (with_reducible refine (SH.out).mono ?_); rintro e w2 ⟨A2, n2, c2, rfl, hv2, b2⟩)
    | (go_at_call 12; (with_reducible refine (RT.out w2 b2).mono ?_); rintro e w3 ⟨A3, n3, c3, br, R, rfl, hv3, b3, hr1, hr2⟩; have B3 := b2.trans (b3.mono b2.size))
    | (go_at_call 13; (with_reducible refine (TX.out w3 B3).mono ?_); rintro e w4 ⟨rfl, b4⟩; have B4 := B3.trans (b4.mono B3.size))
    | (go_at_call 14; (with_reducible refine (LR.out w4 B4).mono ?_); rintro e w5 ⟨rfl, k5, hw5⟩; have b5 : Below w4.heap.size w4 w5 := (by rw [hw5]; have := ((Below.refl w4.heap.size w4).alloc (Nat.le_refl _) (.cells #[.slice A l c] 22)); exact ⟨this.os, this.tape, this.output, this.size, this.block⟩); clear hw5; have B5 := B4.trans (b5.mono B4.size))
    | (go_at_call 15; (with_reducible refine (ZLA.out w5 B5).mono ?_); rintro e w6 ⟨_, rfl, ⟨ba, Aa, na, ca, rfl, hva⟩, b6⟩; have B6 := B5.trans (b6.mono B5.size)))
  have hx6 := (((hv2.below b3).below b4).below b5).below b6
  have hr6 := ((hv3.below b4).below b5).below b6
  have Za := hva.zl
  have b8c : Below w6.heap.size w6 (w6.alloc (Obj.cells #[Value.bool ba, Value.slice Aa na ca] 34)) := (Below.refl _ _).alloc (Nat.le_refl _) _
  have X7 := Blk.new w6 34 #[Value.bool ba, Value.slice Aa na ca]
  have hx6 := hx6.below b8c
  have hr6 := hr6.below b8c
  have Za := Za.below b8c
  have B7 := B6.trans (b8c.mono B6.size)
  obtain ⟨wd, hwd⟩ : ∃ wd, w6.alloc (Obj.cells #[Value.bool ba, Value.slice Aa na ca] 34) = wd := ⟨_, rfl⟩
  obtain ⟨g9, hg9⟩ : ∃ g9, w6.heap.size = g9 := ⟨_, rfl⟩
  rw [hwd] at hx6 hr6 Za X7 B7 ⊢
  rw [hg9] at X7 ⊢
  have KP : Hid (∀ W, Below wd.heap.size wd W → W.cell? ⟨g9, 0, none⟩ = some (.bool ba) ∧ W.cell? ⟨g9, 1, none⟩ = some (.slice Aa na ca)) := fun W h =>
    ⟨(X7.below h X7.lt).at_ 0 rfl, (X7.below h X7.lt).at_ 1 rfl⟩
  have VA : Hid (∀ W, Below wd.heap.size wd W → ZV W (.agg #[.bool ba, .slice Aa na ca]) z) := fun W h => (Za.below h).v
  have X6 := Lib.hid hx6
  have R6 := Lib.hid hr6
  have B7 := Lib.hid B7
  obtain ⟨k1, k2⟩ := hk1.out (by first | trivial | rfl)
  obtain ⟨q1, q2, q3, q4⟩ := hr1.out (by first | trivial | rfl)
  clear hwd hg9 b8c X7 hva b2 b3 b4 b5 b6 B3 B4 B5 B6 hv2 hv3 hx6 hr6 Za BT SH RT TX LR ZLA hk1 hk2 hr1 hr2
  have rz : R ≤ z := by
    rcases (by omega : R = 0 ∨ 1 ≤ R) with h | h
    · rw [h]; exact HZ.out.1
    · have := Int.mul_le_mul_of_nonneg_left h q3
      omega
  have RB := Lib.hid (small_nat q3 (Int.lt_of_le_of_lt rz HZ.out.2.1))
  have rr : (R + 1) * (R + 1) ≤ 3 * z + 1 := by
    have : (R + 1) * (R + 1) = R * R + 2 * R + 1 := by grind
    omega
  have RRB := Lib.hid (small_nat (Int.mul_nonneg q3 q3) (Int.lt_of_le_of_lt q1 HZ.out.2.1))
  have R1B := Lib.hid (small_nat (Int.mul_nonneg (show 0 ≤ R + 1 by omega) (show 0 ≤ R + 1 by omega)) (Int.lt_of_le_of_lt rr HZ.out.2.2))
  have R1C := Lib.hid (small_nat (show 0 ≤ R + 1 by omega) (show R + 1 < 4294967296 ^ 3000 by have := HZ.out.2.2; have := HZ.out.1; omega))
  obtain ⟨kz, hkz⟩ : ∃ kz, (k : Int) = kz := ⟨_, rfl⟩
  rw [hkz]
  have PK : Hid (∀ W, Calls Tryd.prog 17 #[.int .i64 kz] W (RetZ W (2 ^ k))) := fun W => by
    rw [← hkz]
    have := ZC.ZPow_c k (k : Int) W (by omega) (by simp) (by omega)
    simpa using this
  have CK : Hid (∀ W va vb, ZV W va z → ZV W vb (2 ^ k) → Calls Tryd.prog 16 #[va, vb] W fun e w' => e = .returned (.int .i64 (-1)) ∧ Below W.heap.size W w') := fun W va vb h1 h2 => by
    have := ZC.ZCmp_c va vb _ _ W h1 h2 BZ.out.2 (ZC.pow2_big k (by omega))
    rwa [Z.cmpv_lt k1] at this
  have LS : Hid (∀ W, Below wd.heap.size wd W → Calls Tryd.prog 15 #[.slice A3 n3 c3] W (RetZ W R)) := fun W h => zlimbs_nv _ _ W (R6.out.below h) (Int.lt_of_le_of_lt rz HZ.out.2.1)
  have D0 := Below.refl wd.heap.size wd
  obtain ⟨p0, p1⟩ := KP.out _ D0
  have va0 := VA.out _ D0
  have HR := Lib.hid (And.intro q1 (And.intro q2 (And.intro q3 q4)))
  obtain ⟨c3v, hc3v⟩ : ∃ t, cmpv (R * R) z = t := ⟨_, rfl⟩
  have e3 : ¬ 0 < c3v := by
    rw [← hc3v]
    unfold cmpv
    split
    · omega
    · rw [if_neg (by omega)]; omega
  have e4 : (br != (c3v != 0)) = false := by
    rw [q4, ← hc3v]
    by_cases h : R * R = z
    · rw [Z.cmpv_eq h]; simp [h]
    · rw [Z.cmpv_lt (by omega)]; simp [h]
  have E4 := Lib.hid e4
  have CS : Hid (∀ W va vb, ZV W va (R * R) → ZV W vb z → Calls Tryd.prog 16 #[va, vb] W fun e w' => e = .returned (.int .i64 c3v) ∧ Below W.heap.size W w') := fun W va vb h1 h2 => by
    rw [← hc3v]; exact ZC.ZCmp_c va vb _ _ W h1 h2 RRB.out.2 BZ.out.2
  have CT : Hid (∀ W va vb, ZV W va ((R + 1) * (R + 1)) → ZV W vb z → Calls Tryd.prog 16 #[va, vb] W fun e w' => e = .returned (.int .i64 1) ∧ Below W.heap.size W w') := fun W va vb h1 h2 => by
    have := ZC.ZCmp_c va vb _ _ W h1 h2 R1B.out.2 BZ.out.2
    rwa [Z.cmpv_gt q2] at this
  have MS : Hid (∀ W va vb, ZV W va R → ZV W vb R → Calls Tryd.prog 20 #[va, vb] W (RetZ W (R * R))) := fun W va vb h1 h2 => ZC.ZMul_c va vb _ _ W h1 h2 RB.out.2 RB.out.2
  have AS : Hid (∀ W va vb, ZV W va R → ZV W vb 1 → Calls Tryd.prog 21 #[va, vb] W (RetZ W (R + 1))) := fun W va vb h1 h2 => ZC.ZAdd_c va vb _ _ W h1 h2 RB.out.2 (small_nat (by decide) (show (1 : Int) < 4294967296 ^ 3000 from Int.lt_of_lt_of_le (show (1 : Int) < 4294967296 ^ 1 by decide) (pow_mono (by decide)))).2
  have MT : Hid (∀ W va vb, ZV W va (R + 1) → ZV W vb (R + 1) → Calls Tryd.prog 20 #[va, vb] W (RetZ W ((R + 1) * (R + 1)))) := fun W va vb h1 h2 => ZC.ZMul_c va vb _ _ W h1 h2 R1C.out.2 R1C.out.2
  have N1 : Hid (∀ W, Calls Tryd.prog 22 #[.int .i64 1] W (RetZ W 1)) := fun W => ZC.N_c 1 (by decide) (by decide) W
  have LM : Hid (∀ W va, Below wd.heap.size wd W → ZV W va R → Calls Tryd.prog 19 #[.slice A3 n3 c3, va] W fun e w' => e = .returned (.bool true) ∧ Below W.heap.size W w') := fun W va h h2 => limbed_nv _ va R W (R6.out.below h) h2 (Int.lt_of_le_of_lt rz HZ.out.2.1)
  have KK : Hid (z < 2 ^ k ∧ (k = 0 ∨ 2 ^ (k - 1) ≤ z)) := ⟨k1, k2⟩
  clear q1 q2 q3 q4 rz rr hc3v k1 k2
  generalize R * R = RR at *
  generalize (R + 1) * (R + 1) = RT at *
  obtain ⟨k7, hk7⟩ : ∃ t, cmpv z (2 ^ (k - 1)) = t := ⟨_, rfl⟩
  have e7 : ¬ 0 < kz ∨ (0 < kz ∧ 0 < k ∧ ¬ k7 < 0) := by
    rcases KK.out.2 with h | h
    · exact .inl (by omega)
    · by_cases h0 : k = 0
      · exact .inl (by omega)
      · exact .inr ⟨by omega, by omega, by rw [← hk7]; have := Z.cmpv_ge0 (show ¬ z < 2 ^ (k - 1) by omega); omega⟩
  have PL : Hid (0 < k → ∀ W, Calls Tryd.prog 17 #[.int .i64 (kz - 1)] W (RetZ W (2 ^ (k - 1)))) := fun h0 W => by
    rw [← hkz]
    have := ZC.ZPow_c k ((k : Int) - 1) W (by omega) (by omega) (by omega)
    rwa [show ((k : Int) - 1).toNat = k - 1 by omega] at this
  have CL : Hid (∀ W va vb, ZV W va z → ZV W vb (2 ^ (k - 1)) → Calls Tryd.prog 16 #[va, vb] W fun e w' => e = .returned (.int .i64 k7) ∧ Below W.heap.size W w') := fun W va vb h1 h2 => by
    rw [← hk7]; exact ZC.ZCmp_c va vb _ _ W h1 h2 BZ.out.2 (ZC.pow2_big (k - 1) (by omega))
  clear hk7
  generalize (2 : Int) ^ k = pk at *
  generalize (2 : Int) ^ (k - 1) = pl at *
  clear KK
  have hkn : ¬ kz < 0 := by omega
  have i4 : IntKind.i64.wrap (kz - 1) = kz - 1 := IntWalk.i64_in _ (by omega)
  clear va0 hkz
  go_cut [128] (fun s128 wx => s128 = .bool false ∧ Hid (Below wd.heap.size wd wx))
  case first =>
    clear D0
    have D : Below wd.heap.size wd wd.drew := (Below.refl _ _).drew
    have va := VA.out _ D
    rcases e7 with e7 | ⟨e7, e8, e9⟩
    · (refine wp_region_L (S := fun w' => w'.cell? ⟨g9, 0, none⟩ = some (.bool ba) ∧ w'.cell? ⟨g9, 1, none⟩ = some (.slice Aa na ca)) (nl := 1000000) (by kernel_rfl) ?_ (fun hHeld => ?_); focus (exact KP.out _ D))
      (refine wpAnyL_take (i := 0) (oi := _) (v := ?_) rfl (by kernel_rfl) (by kernel_rfl) (by kernel_rfl) (fun _ _ _ h => h) (Or.inl ⟨by first | rfl | kernel_rfl, ?hy1⟩) (by assumption) ?rs1; (case hy1 => (intro w hSw; (try dsimp only at hSw); go_simp; first | done | with_reducible rfl)); case' rs1 => (simp only [List.getElem_toArray, List.getElem_cons_zero, List.getElem_cons_succ, Act.put, List.setIfInBounds_toArray, List.set_cons_zero, List.set_cons_succ])); (refine wpAnyL_take (i := 1) (oi := _) (v := ?_) rfl (by kernel_rfl) (by kernel_rfl) (by kernel_rfl) (fun _ _ _ h => h) (Or.inl ⟨by first | rfl | kernel_rfl, ?hy2⟩) (by assumption) ?rs2; (case hy2 => (intro w hSw; (try dsimp only at hSw); go_simp; first | done | with_reducible rfl)); case' rs2 => (simp only [List.getElem_toArray, List.getElem_cons_zero, List.getElem_cons_succ, Act.put, List.setIfInBounds_toArray, List.set_cons_zero, List.set_cons_succ])); (refine wpAnyL_take (i := 2) (oi := _) (v := ?_) rfl (by kernel_rfl) (by kernel_rfl) (by kernel_rfl) (fun _ _ _ h => h) (Or.inl ⟨by first | rfl | kernel_rfl, ?hy3⟩) (by assumption) ?rs3; (case hy3 => (intro w hSw; (try dsimp only at hSw); go_simp; first | done | with_reducible rfl)); case' rs3 => (simp only [List.getElem_toArray, List.getElem_cons_zero, List.getElem_cons_succ, Act.put, List.setIfInBounds_toArray, List.set_cons_zero, List.set_cons_succ])); (refine wpAnyL_take (i := 3) (oi := _) (v := ?_) rfl (by kernel_rfl) (by kernel_rfl) (by kernel_rfl) (fun _ _ _ h => h) (Or.inl ⟨by first | rfl | kernel_rfl, ?hy4⟩) (by assumption) ?rs4; (case hy4 => (intro w hSw; (try dsimp only at hSw); go_simp; first | done | with_reducible rfl)); case' rs4 => (simp only [List.getElem_toArray, List.getElem_cons_zero, List.getElem_cons_succ, Act.put, List.setIfInBounds_toArray, List.set_cons_zero, List.set_cons_succ])); (refine wpAnyL_take (i := 4) (oi := _) (v := ?_) rfl (by kernel_rfl) (by kernel_rfl) (by kernel_rfl) (fun _ _ _ h => h) (Or.inl ⟨by first | rfl | kernel_rfl, ?hy5⟩) (by assumption) ?rs5; (case hy5 => (intro w hSw; (try dsimp only at hSw); go_simp; first | done | with_reducible rfl)); case' rs5 => (simp only [List.getElem_toArray, List.getElem_cons_zero, List.getElem_cons_succ, Act.put, List.setIfInBounds_toArray, List.set_cons_zero, List.set_cons_succ])); (refine wpAnyL_take (i := 5) (oi := _) (v := ?_) rfl (by kernel_rfl) (by kernel_rfl) (by kernel_rfl) (fun _ _ _ h => h) (Or.inl ⟨by first | rfl | kernel_rfl, ?hy6⟩) (by assumption) ?rs6; (case hy6 => (intro w hSw; (try dsimp only at hSw); go_simp; first | done | with_reducible rfl)); case' rs6 => (simp only [List.getElem_toArray, List.getElem_cons_zero, List.getElem_cons_succ, Act.put, List.setIfInBounds_toArray, List.set_cons_zero, List.set_cons_succ])); (refine wpAnyL_take (i := 6) (oi := _) (v := ?_) rfl (by kernel_rfl) (by kernel_rfl) (by kernel_rfl) (fun _ _ _ h => h) (Or.inl ⟨by first | rfl | kernel_rfl, ?hy7⟩) (by assumption) ?rs7; (case hy7 => (intro w hSw; (try dsimp only at hSw); go_simp; first | done | with_reducible rfl)); case' rs7 => (simp only [List.getElem_toArray, List.getElem_cons_zero, List.getElem_cons_succ, Act.put, List.setIfInBounds_toArray, List.set_cons_zero, List.set_cons_succ])); (refine wpAnyL_take (i := 7) (oi := _) (v := ?_) rfl (by kernel_rfl) (by kernel_rfl) (by kernel_rfl) (fun _ _ _ h => h) (Or.inl ⟨by first | rfl | kernel_rfl, ?hy8⟩) (by assumption) ?rs8; (case hy8 => (intro w hSw; (try dsimp only at hSw); go_simp; first | done | with_reducible rfl)); case' rs8 => (simp only [List.getElem_toArray, List.getElem_cons_zero, List.getElem_cons_succ, Act.put, List.setIfInBounds_toArray, List.set_cons_zero, List.set_cons_succ])); (refine wpAnyL_take (i := 8) (oi := _) (v := ?_) rfl (by kernel_rfl) (by kernel_rfl) (by kernel_rfl) (fun _ _ _ h => h) (Or.inl ⟨by first | rfl | kernel_rfl, ?hy9⟩) (by assumption) ?rs9; (case hy9 => (intro w hSw; (try dsimp only at hSw); go_simp; first | done | with_reducible rfl)); case' rs9 => (simp only [List.getElem_toArray, List.getElem_cons_zero, List.getElem_cons_succ, Act.put, List.setIfInBounds_toArray, List.set_cons_zero, List.set_cons_succ])); skip
      (refine wpAnyL_one (i := 9) (o := _) (by kernel_rfl) rfl (fun K hK => ?_); clear hHeld; simp only [List.getElem_toArray, List.getElem_cons_zero, List.getElem_cons_succ]; go_simp; (go_at_call 17; (with_reducible refine (PK.out _).mono ?_); rintro e w1 ⟨_, rfl, ⟨b1, A1, n1, c1, rfl, hp⟩, hb⟩; have D := D.trans (hb.mono D.size); have va := VA.out _ D); refine hK.out _ _ ?_ (fun hHeld => ?_); focus (intro _; exact KP.out _ D)); have hHeld := hHeld (by decide); clear hK K; (try simp only [Act.put, List.setIfInBounds_toArray, List.set_cons_zero, List.set_cons_succ])
      (refine wpAnyL_one (i := 10) (o := _) (by kernel_rfl) rfl (fun K hK => ?_); clear hHeld; simp only [List.getElem_toArray, List.getElem_cons_zero, List.getElem_cons_succ]; go_simp; (go_at_call 16; (with_reducible refine (CK.out _ _ _ va hp.zl.v).mono ?_); rintro e w2 ⟨rfl, hb⟩; have D := D.trans (hb.mono D.size); have va := VA.out _ D); refine hK.out _ _ ?_ (fun hHeld => ?_); focus (intro _; exact KP.out _ D)); have hHeld := hHeld (by decide); clear hK K; (try simp only [Act.put, List.setIfInBounds_toArray, List.set_cons_zero, List.set_cons_succ])
      (refine wpAnyL_take (i := 11) (oi := _) (v := ?_) rfl (by kernel_rfl) (by kernel_rfl) (by kernel_rfl) (fun _ _ _ h => h) (Or.inl ⟨by first | rfl | kernel_rfl, ?hy10⟩) (by assumption) ?rs10; (case hy10 => (intro w hSw; (try dsimp only at hSw); go_simp; first | done | with_reducible rfl)); case' rs10 => (simp only [List.getElem_toArray, List.getElem_cons_zero, List.getElem_cons_succ, Act.put, List.setIfInBounds_toArray, List.set_cons_zero, List.set_cons_succ])); (refine wpAnyL_take (i := 12) (oi := _) (v := ?_) rfl (by kernel_rfl) (by kernel_rfl) (by kernel_rfl) (fun _ _ _ h => h) (Or.inl ⟨by first | rfl | kernel_rfl, ?hy11⟩) (by assumption) ?rs11; (case hy11 => (intro w hSw; (try dsimp only at hSw); go_simp; first | done | with_reducible rfl)); case' rs11 => (simp only [List.getElem_toArray, List.getElem_cons_zero, List.getElem_cons_succ, Act.put, List.setIfInBounds_toArray, List.set_cons_zero, List.set_cons_succ])); (refine wpAnyL_take (i := 13) (oi := _) (v := ?_) rfl (by kernel_rfl) (by kernel_rfl) (by kernel_rfl) (fun _ _ _ h => h) (Or.inl ⟨by first | rfl | kernel_rfl, ?hy12⟩) (by assumption) ?rs12; (case hy12 => (intro w hSw; (try dsimp only at hSw); go_simp; first | done | with_reducible rfl)); case' rs12 => (simp only [List.getElem_toArray, List.getElem_cons_zero, List.getElem_cons_succ, Act.put, List.setIfInBounds_toArray, List.set_cons_zero, List.set_cons_succ])); (refine wpAnyL_take (i := 14) (oi := _) (v := ?_) rfl (by kernel_rfl) (by kernel_rfl) (by kernel_rfl) (fun _ _ _ h => h) (Or.inl ⟨by first | rfl | kernel_rfl, ?hy13⟩) (by assumption) ?rs13; (case hy13 => (intro w hSw; (try dsimp only at hSw); go_simp; first | done | with_reducible rfl)); case' rs13 => (simp only [List.getElem_toArray, List.getElem_cons_zero, List.getElem_cons_succ, Act.put, List.setIfInBounds_toArray, List.set_cons_zero, List.set_cons_succ])); (refine wpAnyL_take (i := 15) (oi := _) (v := ?_) rfl (by kernel_rfl) (by kernel_rfl) (by kernel_rfl) (fun _ _ _ h => h) (Or.inl ⟨by first | rfl | kernel_rfl, ?hy14⟩) (by assumption) ?rs14; (case hy14 => (intro w hSw; (try dsimp only at hSw); go_simp; first | done | with_reducible rfl)); case' rs14 => (simp only [List.getElem_toArray, List.getElem_cons_zero, List.getElem_cons_succ, Act.put, List.setIfInBounds_toArray, List.set_cons_zero, List.set_cons_succ])); (refine wpAnyL_take (i := 16) (oi := _) (v := ?_) rfl (by kernel_rfl) (by kernel_rfl) (by kernel_rfl) (fun _ _ _ h => h) (Or.inl ⟨by first | rfl | kernel_rfl, ?hy15⟩) (by assumption) ?rs15; (case hy15 => (intro w hSw; (try dsimp only at hSw); go_simp; first | done | with_reducible rfl)); case' rs15 => (simp only [List.getElem_toArray, List.getElem_cons_zero, List.getElem_cons_succ, Act.put, List.setIfInBounds_toArray, List.set_cons_zero, List.set_cons_succ])); (refine wpAnyL_take (i := 17) (oi := _) (v := undef) rfl (by kernel_rfl) (by kernel_rfl) (by kernel_rfl) (fun _ _ _ h => h) (Or.inr ⟨by first | rfl | kernel_rfl, rfl⟩) (by assumption) ?rs16; case' rs16 => (simp only [List.getElem_toArray, List.getElem_cons_zero, List.getElem_cons_succ, Act.put, List.setIfInBounds_toArray, List.set_cons_zero, List.set_cons_succ])); (refine wpAnyL_take (i := 18) (oi := _) (v := undef) rfl (by kernel_rfl) (by kernel_rfl) (by kernel_rfl) (fun _ _ _ h => h) (Or.inr ⟨by first | rfl | kernel_rfl, rfl⟩) (by assumption) ?rs17; case' rs17 => (simp only [List.getElem_toArray, List.getElem_cons_zero, List.getElem_cons_succ, Act.put, List.setIfInBounds_toArray, List.set_cons_zero, List.set_cons_succ])); (refine wpAnyL_take (i := 19) (oi := _) (v := undef) rfl (by kernel_rfl) (by kernel_rfl) (by kernel_rfl) (fun _ _ _ h => h) (Or.inr ⟨by first | rfl | kernel_rfl, rfl⟩) (by assumption) ?rs18; case' rs18 => (simp only [List.getElem_toArray, List.getElem_cons_zero, List.getElem_cons_succ, Act.put, List.setIfInBounds_toArray, List.set_cons_zero, List.set_cons_succ])); (refine wpAnyL_take (i := 20) (oi := _) (v := undef) rfl (by kernel_rfl) (by kernel_rfl) (by kernel_rfl) (fun _ _ _ h => h) (Or.inr ⟨by first | rfl | kernel_rfl, rfl⟩) (by assumption) ?rs19; case' rs19 => (simp only [List.getElem_toArray, List.getElem_cons_zero, List.getElem_cons_succ, Act.put, List.setIfInBounds_toArray, List.set_cons_zero, List.set_cons_succ])); (refine wpAnyL_take (i := 21) (oi := _) (v := undef) rfl (by kernel_rfl) (by kernel_rfl) (by kernel_rfl) (fun _ _ _ h => h) (Or.inr ⟨by first | rfl | kernel_rfl, rfl⟩) (by assumption) ?rs20; case' rs20 => (simp only [List.getElem_toArray, List.getElem_cons_zero, List.getElem_cons_succ, Act.put, List.setIfInBounds_toArray, List.set_cons_zero, List.set_cons_succ])); (refine wpAnyL_take (i := 22) (oi := _) (v := undef) rfl (by kernel_rfl) (by kernel_rfl) (by kernel_rfl) (fun _ _ _ h => h) (Or.inr ⟨by first | rfl | kernel_rfl, rfl⟩) (by assumption) ?rs21; case' rs21 => (simp only [List.getElem_toArray, List.getElem_cons_zero, List.getElem_cons_succ, Act.put, List.setIfInBounds_toArray, List.set_cons_zero, List.set_cons_succ])); (refine wpAnyL_take (i := 23) (oi := _) (v := ?_) rfl (by kernel_rfl) (by kernel_rfl) (by kernel_rfl) (fun _ _ _ h => h) (Or.inl ⟨by first | rfl | kernel_rfl, ?hy22⟩) (by assumption) ?rs22; (case hy22 => (intro w hSw; (try dsimp only at hSw); go_simp; first | done | with_reducible rfl)); case' rs22 => (simp only [List.getElem_toArray, List.getElem_cons_zero, List.getElem_cons_succ, Act.put, List.setIfInBounds_toArray, List.set_cons_zero, List.set_cons_succ])); (refine wpAnyL_take (i := 24) (oi := _) (v := ?_) rfl (by kernel_rfl) (by kernel_rfl) (by kernel_rfl) (fun _ _ _ h => h) (Or.inl ⟨by first | rfl | kernel_rfl, ?hy23⟩) (by assumption) ?rs23; (case hy23 => (intro w hSw; (try dsimp only at hSw); go_simp; first | done | with_reducible rfl)); case' rs23 => (simp only [List.getElem_toArray, List.getElem_cons_zero, List.getElem_cons_succ, Act.put, List.setIfInBounds_toArray, List.set_cons_zero, List.set_cons_succ])); (refine wpAnyL_take (i := 25) (oi := _) (v := ?_) rfl (by kernel_rfl) (by kernel_rfl) (by kernel_rfl) (fun _ _ _ h => h) (Or.inl ⟨by first | rfl | kernel_rfl, ?hy24⟩) (by assumption) ?rs24; (case hy24 => (intro w hSw; (try dsimp only at hSw); go_simp; first | done | with_reducible rfl)); case' rs24 => (simp only [List.getElem_toArray, List.getElem_cons_zero, List.getElem_cons_succ, Act.put, List.setIfInBounds_toArray, List.set_cons_zero, List.set_cons_succ])); (refine wpAnyL_take (i := 26) (oi := _) (v := ?_) rfl (by kernel_rfl) (by kernel_rfl) (by kernel_rfl) (fun _ _ _ h => h) (Or.inl ⟨by first | rfl | kernel_rfl, ?hy25⟩) (by assumption) ?rs25; (case hy25 => (intro w hSw; (try dsimp only at hSw); go_simp; first | done | with_reducible rfl)); case' rs25 => (simp only [List.getElem_toArray, List.getElem_cons_zero, List.getElem_cons_succ, Act.put, List.setIfInBounds_toArray, List.set_cons_zero, List.set_cons_succ])); (refine wpAnyL_take (i := 27) (oi := _) (v := ?_) rfl (by kernel_rfl) (by kernel_rfl) (by kernel_rfl) (fun _ _ _ h => h) (Or.inl ⟨by first | rfl | kernel_rfl, ?hy26⟩) (by assumption) ?rs26; (case hy26 => (intro w hSw; (try dsimp only at hSw); go_simp; first | done | with_reducible rfl)); case' rs26 => (simp only [List.getElem_toArray, List.getElem_cons_zero, List.getElem_cons_succ, Act.put, List.setIfInBounds_toArray, List.set_cons_zero, List.set_cons_succ])); skip
      (refine wpAnyL_one (i := 28) (o := _) (by kernel_rfl) rfl (fun K hK => ?_); clear hHeld; simp only [List.getElem_toArray, List.getElem_cons_zero, List.getElem_cons_succ]; go_simp; (go_at_call 18; (with_reducible refine (TXT.out _ _ va).mono ?_); rintro e w3 ⟨rfl, hb⟩; have D := D.trans (hb.mono D.size); have va := VA.out _ D); refine hK.out _ _ ?_ (fun hHeld => ?_); focus (intro _; exact KP.out _ D)); have hHeld := hHeld (by decide); clear hK K; (try simp only [Act.put, List.setIfInBounds_toArray, List.set_cons_zero, List.set_cons_succ])
      (refine wpAnyL_take (i := 29) (oi := _) (v := ?_) rfl (by kernel_rfl) (by kernel_rfl) (by kernel_rfl) (fun _ _ _ h => h) (Or.inl ⟨by first | rfl | kernel_rfl, ?hy27⟩) (by assumption) ?rs27; (case hy27 => (intro w hSw; (try dsimp only at hSw); go_simp; first | done | with_reducible rfl)); case' rs27 => (simp only [List.getElem_toArray, List.getElem_cons_zero, List.getElem_cons_succ, Act.put, List.setIfInBounds_toArray, List.set_cons_zero, List.set_cons_succ])); (refine wpAnyL_take (i := 30) (oi := _) (v := ?_) rfl (by kernel_rfl) (by kernel_rfl) (by kernel_rfl) (fun _ _ _ h => h) (Or.inl ⟨by first | rfl | kernel_rfl, ?hy28⟩) (by assumption) ?rs28; (case hy28 => (intro w hSw; (try dsimp only at hSw); go_simp; first | done | with_reducible rfl)); case' rs28 => (simp only [List.getElem_toArray, List.getElem_cons_zero, List.getElem_cons_succ, Act.put, List.setIfInBounds_toArray, List.set_cons_zero, List.set_cons_succ])); (refine wpAnyL_take (i := 31) (oi := _) (v := ?_) rfl (by kernel_rfl) (by kernel_rfl) (by kernel_rfl) (fun _ _ _ h => h) (Or.inl ⟨by first | rfl | kernel_rfl, ?hy29⟩) (by assumption) ?rs29; (case hy29 => (intro w hSw; (try dsimp only at hSw); go_simp; first | done | with_reducible rfl)); case' rs29 => (simp only [List.getElem_toArray, List.getElem_cons_zero, List.getElem_cons_succ, Act.put, List.setIfInBounds_toArray, List.set_cons_zero, List.set_cons_succ])); (refine wpAnyL_take (i := 32) (oi := _) (v := ?_) rfl (by kernel_rfl) (by kernel_rfl) (by kernel_rfl) (fun _ _ _ h => h) (Or.inl ⟨by first | rfl | kernel_rfl, ?hy30⟩) (by assumption) ?rs30; (case hy30 => (intro w hSw; (try dsimp only at hSw); go_simp; first | done | with_reducible rfl)); case' rs30 => (simp only [List.getElem_toArray, List.getElem_cons_zero, List.getElem_cons_succ, Act.put, List.setIfInBounds_toArray, List.set_cons_zero, List.set_cons_succ])); (refine wpAnyL_take (i := 33) (oi := _) (v := ?_) rfl (by kernel_rfl) (by kernel_rfl) (by kernel_rfl) (fun _ _ _ h => h) (Or.inl ⟨by first | rfl | kernel_rfl, ?hy31⟩) (by assumption) ?rs31; (case hy31 => (intro w hSw; (try dsimp only at hSw); go_simp; first | done | with_reducible rfl)); case' rs31 => (simp only [List.getElem_toArray, List.getElem_cons_zero, List.getElem_cons_succ, Act.put, List.setIfInBounds_toArray, List.set_cons_zero, List.set_cons_succ])); (refine wpAnyL_take (i := 34) (oi := _) (v := ?_) rfl (by kernel_rfl) (by kernel_rfl) (by kernel_rfl) (fun _ _ _ h => h) (Or.inl ⟨by first | rfl | kernel_rfl, ?hy32⟩) (by assumption) ?rs32; (case hy32 => (intro w hSw; (try dsimp only at hSw); go_simp; first | done | with_reducible rfl)); case' rs32 => (simp only [List.getElem_toArray, List.getElem_cons_zero, List.getElem_cons_succ, Act.put, List.setIfInBounds_toArray, List.set_cons_zero, List.set_cons_succ])); skip
      refine wpAnyL_done (by kernel_rfl) ?_ _
      go_wp2
      go_meet
      exact ⟨rfl, D⟩
    · (refine wp_region_L (S := fun w' => w'.cell? ⟨g9, 0, none⟩ = some (.bool ba) ∧ w'.cell? ⟨g9, 1, none⟩ = some (.slice Aa na ca)) (nl := 1000000) (by kernel_rfl) ?_ (fun hHeld => ?_); focus (exact KP.out _ D))
      (refine wpAnyL_take (i := 0) (oi := _) (v := ?_) rfl (by kernel_rfl) (by kernel_rfl) (by kernel_rfl) (fun _ _ _ h => h) (Or.inl ⟨by first | rfl | kernel_rfl, ?hy33⟩) (by assumption) ?rs33; (case hy33 => (intro w hSw; (try dsimp only at hSw); go_simp; first | done | with_reducible rfl)); case' rs33 => (simp only [List.getElem_toArray, List.getElem_cons_zero, List.getElem_cons_succ, Act.put, List.setIfInBounds_toArray, List.set_cons_zero, List.set_cons_succ])); (refine wpAnyL_take (i := 1) (oi := _) (v := ?_) rfl (by kernel_rfl) (by kernel_rfl) (by kernel_rfl) (fun _ _ _ h => h) (Or.inl ⟨by first | rfl | kernel_rfl, ?hy34⟩) (by assumption) ?rs34; (case hy34 => (intro w hSw; (try dsimp only at hSw); go_simp; first | done | with_reducible rfl)); case' rs34 => (simp only [List.getElem_toArray, List.getElem_cons_zero, List.getElem_cons_succ, Act.put, List.setIfInBounds_toArray, List.set_cons_zero, List.set_cons_succ])); (refine wpAnyL_take (i := 2) (oi := _) (v := ?_) rfl (by kernel_rfl) (by kernel_rfl) (by kernel_rfl) (fun _ _ _ h => h) (Or.inl ⟨by first | rfl | kernel_rfl, ?hy35⟩) (by assumption) ?rs35; (case hy35 => (intro w hSw; (try dsimp only at hSw); go_simp; first | done | with_reducible rfl)); case' rs35 => (simp only [List.getElem_toArray, List.getElem_cons_zero, List.getElem_cons_succ, Act.put, List.setIfInBounds_toArray, List.set_cons_zero, List.set_cons_succ])); (refine wpAnyL_take (i := 3) (oi := _) (v := ?_) rfl (by kernel_rfl) (by kernel_rfl) (by kernel_rfl) (fun _ _ _ h => h) (Or.inl ⟨by first | rfl | kernel_rfl, ?hy36⟩) (by assumption) ?rs36; (case hy36 => (intro w hSw; (try dsimp only at hSw); go_simp; first | done | with_reducible rfl)); case' rs36 => (simp only [List.getElem_toArray, List.getElem_cons_zero, List.getElem_cons_succ, Act.put, List.setIfInBounds_toArray, List.set_cons_zero, List.set_cons_succ])); (refine wpAnyL_take (i := 4) (oi := _) (v := ?_) rfl (by kernel_rfl) (by kernel_rfl) (by kernel_rfl) (fun _ _ _ h => h) (Or.inl ⟨by first | rfl | kernel_rfl, ?hy37⟩) (by assumption) ?rs37; (case hy37 => (intro w hSw; (try dsimp only at hSw); go_simp; first | done | with_reducible rfl)); case' rs37 => (simp only [List.getElem_toArray, List.getElem_cons_zero, List.getElem_cons_succ, Act.put, List.setIfInBounds_toArray, List.set_cons_zero, List.set_cons_succ])); (refine wpAnyL_take (i := 5) (oi := _) (v := ?_) rfl (by kernel_rfl) (by kernel_rfl) (by kernel_rfl) (fun _ _ _ h => h) (Or.inl ⟨by first | rfl | kernel_rfl, ?hy38⟩) (by assumption) ?rs38; (case hy38 => (intro w hSw; (try dsimp only at hSw); go_simp; first | done | with_reducible rfl)); case' rs38 => (simp only [List.getElem_toArray, List.getElem_cons_zero, List.getElem_cons_succ, Act.put, List.setIfInBounds_toArray, List.set_cons_zero, List.set_cons_succ])); (refine wpAnyL_take (i := 6) (oi := _) (v := ?_) rfl (by kernel_rfl) (by kernel_rfl) (by kernel_rfl) (fun _ _ _ h => h) (Or.inl ⟨by first | rfl | kernel_rfl, ?hy39⟩) (by assumption) ?rs39; (case hy39 => (intro w hSw; (try dsimp only at hSw); go_simp; first | done | with_reducible rfl)); case' rs39 => (simp only [List.getElem_toArray, List.getElem_cons_zero, List.getElem_cons_succ, Act.put, List.setIfInBounds_toArray, List.set_cons_zero, List.set_cons_succ])); (refine wpAnyL_take (i := 7) (oi := _) (v := ?_) rfl (by kernel_rfl) (by kernel_rfl) (by kernel_rfl) (fun _ _ _ h => h) (Or.inl ⟨by first | rfl | kernel_rfl, ?hy40⟩) (by assumption) ?rs40; (case hy40 => (intro w hSw; (try dsimp only at hSw); go_simp; first | done | with_reducible rfl)); case' rs40 => (simp only [List.getElem_toArray, List.getElem_cons_zero, List.getElem_cons_succ, Act.put, List.setIfInBounds_toArray, List.set_cons_zero, List.set_cons_succ])); (refine wpAnyL_take (i := 8) (oi := _) (v := ?_) rfl (by kernel_rfl) (by kernel_rfl) (by kernel_rfl) (fun _ _ _ h => h) (Or.inl ⟨by first | rfl | kernel_rfl, ?hy41⟩) (by assumption) ?rs41; (case hy41 => (intro w hSw; (try dsimp only at hSw); go_simp; first | done | with_reducible rfl)); case' rs41 => (simp only [List.getElem_toArray, List.getElem_cons_zero, List.getElem_cons_succ, Act.put, List.setIfInBounds_toArray, List.set_cons_zero, List.set_cons_succ])); skip
      (refine wpAnyL_one (i := 9) (o := _) (by kernel_rfl) rfl (fun K hK => ?_); clear hHeld; simp only [List.getElem_toArray, List.getElem_cons_zero, List.getElem_cons_succ]; go_simp; (go_at_call 17; (with_reducible refine (PK.out _).mono ?_); rintro e w1 ⟨_, rfl, ⟨b1, A1, n1, c1, rfl, hp⟩, hb⟩; have D := D.trans (hb.mono D.size); have va := VA.out _ D); refine hK.out _ _ ?_ (fun hHeld => ?_); focus (intro _; exact KP.out _ D)); have hHeld := hHeld (by decide); clear hK K; (try simp only [Act.put, List.setIfInBounds_toArray, List.set_cons_zero, List.set_cons_succ])
      (refine wpAnyL_one (i := 10) (o := _) (by kernel_rfl) rfl (fun K hK => ?_); clear hHeld; simp only [List.getElem_toArray, List.getElem_cons_zero, List.getElem_cons_succ]; go_simp; (go_at_call 16; (with_reducible refine (CK.out _ _ _ va hp.zl.v).mono ?_); rintro e w2 ⟨rfl, hb⟩; have D := D.trans (hb.mono D.size); have va := VA.out _ D); refine hK.out _ _ ?_ (fun hHeld => ?_); focus (intro _; exact KP.out _ D)); have hHeld := hHeld (by decide); clear hK K; (try simp only [Act.put, List.setIfInBounds_toArray, List.set_cons_zero, List.set_cons_succ])
      (refine wpAnyL_take (i := 11) (oi := _) (v := ?_) rfl (by kernel_rfl) (by kernel_rfl) (by kernel_rfl) (fun _ _ _ h => h) (Or.inl ⟨by first | rfl | kernel_rfl, ?hy42⟩) (by assumption) ?rs42; (case hy42 => (intro w hSw; (try dsimp only at hSw); go_simp; first | done | with_reducible rfl)); case' rs42 => (simp only [List.getElem_toArray, List.getElem_cons_zero, List.getElem_cons_succ, Act.put, List.setIfInBounds_toArray, List.set_cons_zero, List.set_cons_succ])); (refine wpAnyL_take (i := 12) (oi := _) (v := ?_) rfl (by kernel_rfl) (by kernel_rfl) (by kernel_rfl) (fun _ _ _ h => h) (Or.inl ⟨by first | rfl | kernel_rfl, ?hy43⟩) (by assumption) ?rs43; (case hy43 => (intro w hSw; (try dsimp only at hSw); go_simp; first | done | with_reducible rfl)); case' rs43 => (simp only [List.getElem_toArray, List.getElem_cons_zero, List.getElem_cons_succ, Act.put, List.setIfInBounds_toArray, List.set_cons_zero, List.set_cons_succ])); (refine wpAnyL_take (i := 13) (oi := _) (v := ?_) rfl (by kernel_rfl) (by kernel_rfl) (by kernel_rfl) (fun _ _ _ h => h) (Or.inl ⟨by first | rfl | kernel_rfl, ?hy44⟩) (by assumption) ?rs44; (case hy44 => (intro w hSw; (try dsimp only at hSw); go_simp; first | done | with_reducible rfl)); case' rs44 => (simp only [List.getElem_toArray, List.getElem_cons_zero, List.getElem_cons_succ, Act.put, List.setIfInBounds_toArray, List.set_cons_zero, List.set_cons_succ])); (refine wpAnyL_take (i := 14) (oi := _) (v := ?_) rfl (by kernel_rfl) (by kernel_rfl) (by kernel_rfl) (fun _ _ _ h => h) (Or.inl ⟨by first | rfl | kernel_rfl, ?hy45⟩) (by assumption) ?rs45; (case hy45 => (intro w hSw; (try dsimp only at hSw); go_simp; first | done | with_reducible rfl)); case' rs45 => (simp only [List.getElem_toArray, List.getElem_cons_zero, List.getElem_cons_succ, Act.put, List.setIfInBounds_toArray, List.set_cons_zero, List.set_cons_succ])); (refine wpAnyL_take (i := 15) (oi := _) (v := ?_) rfl (by kernel_rfl) (by kernel_rfl) (by kernel_rfl) (fun _ _ _ h => h) (Or.inl ⟨by first | rfl | kernel_rfl, ?hy46⟩) (by assumption) ?rs46; (case hy46 => (intro w hSw; (try dsimp only at hSw); go_simp; first | done | with_reducible rfl)); case' rs46 => (simp only [List.getElem_toArray, List.getElem_cons_zero, List.getElem_cons_succ, Act.put, List.setIfInBounds_toArray, List.set_cons_zero, List.set_cons_succ])); (refine wpAnyL_take (i := 16) (oi := _) (v := ?_) rfl (by kernel_rfl) (by kernel_rfl) (by kernel_rfl) (fun _ _ _ h => h) (Or.inl ⟨by first | rfl | kernel_rfl, ?hy47⟩) (by assumption) ?rs47; (case hy47 => (intro w hSw; (try dsimp only at hSw); go_simp; first | done | with_reducible rfl)); case' rs47 => (simp only [List.getElem_toArray, List.getElem_cons_zero, List.getElem_cons_succ, Act.put, List.setIfInBounds_toArray, List.set_cons_zero, List.set_cons_succ])); (refine wpAnyL_take (i := 17) (oi := _) (v := ?_) rfl (by kernel_rfl) (by kernel_rfl) (by kernel_rfl) (fun _ _ _ h => h) (Or.inl ⟨by first | rfl | kernel_rfl, ?hy48⟩) (by assumption) ?rs48; (case hy48 => (intro w hSw; (try dsimp only at hSw); go_simp; first | done | with_reducible rfl)); case' rs48 => (simp only [List.getElem_toArray, List.getElem_cons_zero, List.getElem_cons_succ, Act.put, List.setIfInBounds_toArray, List.set_cons_zero, List.set_cons_succ])); (refine wpAnyL_take (i := 18) (oi := _) (v := ?_) rfl (by kernel_rfl) (by kernel_rfl) (by kernel_rfl) (fun _ _ _ h => h) (Or.inl ⟨by first | rfl | kernel_rfl, ?hy49⟩) (by assumption) ?rs49; (case hy49 => (intro w hSw; (try dsimp only at hSw); go_simp; first | done | with_reducible rfl)); case' rs49 => (simp only [List.getElem_toArray, List.getElem_cons_zero, List.getElem_cons_succ, Act.put, List.setIfInBounds_toArray, List.set_cons_zero, List.set_cons_succ])); (refine wpAnyL_take (i := 19) (oi := _) (v := ?_) rfl (by kernel_rfl) (by kernel_rfl) (by kernel_rfl) (fun _ _ _ h => h) (Or.inl ⟨by first | rfl | kernel_rfl, ?hy50⟩) (by assumption) ?rs50; (case hy50 => (intro w hSw; (try dsimp only at hSw); go_simp; first | done | with_reducible rfl)); case' rs50 => (simp only [List.getElem_toArray, List.getElem_cons_zero, List.getElem_cons_succ, Act.put, List.setIfInBounds_toArray, List.set_cons_zero, List.set_cons_succ])); skip
      (refine wpAnyL_one (i := 20) (o := _) (by kernel_rfl) rfl (fun K hK => ?_); clear hHeld; simp only [List.getElem_toArray, List.getElem_cons_zero, List.getElem_cons_succ]; go_simp; (go_at_call 17; (with_reducible refine (PL.out e8 _).mono ?_); rintro e w1 ⟨_, rfl, ⟨b1, A1, n1, c1, rfl, hp⟩, hb⟩; have D := D.trans (hb.mono D.size); have va := VA.out _ D); refine hK.out _ _ ?_ (fun hHeld => ?_); focus (intro _; exact KP.out _ D)); have hHeld := hHeld (by decide); clear hK K; (try simp only [Act.put, List.setIfInBounds_toArray, List.set_cons_zero, List.set_cons_succ])
      (refine wpAnyL_one (i := 21) (o := _) (by kernel_rfl) rfl (fun K hK => ?_); clear hHeld; simp only [List.getElem_toArray, List.getElem_cons_zero, List.getElem_cons_succ]; go_simp; (go_at_call 16; (with_reducible refine (CL.out _ _ _ va hp.zl.v).mono ?_); rintro e w2 ⟨rfl, hb⟩; have D := D.trans (hb.mono D.size); have va := VA.out _ D); refine hK.out _ _ ?_ (fun hHeld => ?_); focus (intro _; exact KP.out _ D)); have hHeld := hHeld (by decide); clear hK K; (try simp only [Act.put, List.setIfInBounds_toArray, List.set_cons_zero, List.set_cons_succ])
      (refine wpAnyL_take (i := 22) (oi := _) (v := ?_) rfl (by kernel_rfl) (by kernel_rfl) (by kernel_rfl) (fun _ _ _ h => h) (Or.inl ⟨by first | rfl | kernel_rfl, ?hy51⟩) (by assumption) ?rs51; (case hy51 => (intro w hSw; (try dsimp only at hSw); go_simp; first | done | with_reducible rfl)); case' rs51 => (simp only [List.getElem_toArray, List.getElem_cons_zero, List.getElem_cons_succ, Act.put, List.setIfInBounds_toArray, List.set_cons_zero, List.set_cons_succ])); (refine wpAnyL_take (i := 23) (oi := _) (v := ?_) rfl (by kernel_rfl) (by kernel_rfl) (by kernel_rfl) (fun _ _ _ h => h) (Or.inl ⟨by first | rfl | kernel_rfl, ?hy52⟩) (by assumption) ?rs52; (case hy52 => (intro w hSw; (try dsimp only at hSw); go_simp; first | done | with_reducible rfl)); case' rs52 => (simp only [List.getElem_toArray, List.getElem_cons_zero, List.getElem_cons_succ, Act.put, List.setIfInBounds_toArray, List.set_cons_zero, List.set_cons_succ])); (refine wpAnyL_take (i := 24) (oi := _) (v := ?_) rfl (by kernel_rfl) (by kernel_rfl) (by kernel_rfl) (fun _ _ _ h => h) (Or.inl ⟨by first | rfl | kernel_rfl, ?hy53⟩) (by assumption) ?rs53; (case hy53 => (intro w hSw; (try dsimp only at hSw); go_simp; first | done | with_reducible rfl)); case' rs53 => (simp only [List.getElem_toArray, List.getElem_cons_zero, List.getElem_cons_succ, Act.put, List.setIfInBounds_toArray, List.set_cons_zero, List.set_cons_succ])); (refine wpAnyL_take (i := 25) (oi := _) (v := ?_) rfl (by kernel_rfl) (by kernel_rfl) (by kernel_rfl) (fun _ _ _ h => h) (Or.inl ⟨by first | rfl | kernel_rfl, ?hy54⟩) (by assumption) ?rs54; (case hy54 => (intro w hSw; (try dsimp only at hSw); go_simp; first | done | with_reducible rfl)); case' rs54 => (simp only [List.getElem_toArray, List.getElem_cons_zero, List.getElem_cons_succ, Act.put, List.setIfInBounds_toArray, List.set_cons_zero, List.set_cons_succ])); (refine wpAnyL_take (i := 26) (oi := _) (v := ?_) rfl (by kernel_rfl) (by kernel_rfl) (by kernel_rfl) (fun _ _ _ h => h) (Or.inl ⟨by first | rfl | kernel_rfl, ?hy55⟩) (by assumption) ?rs55; (case hy55 => (intro w hSw; (try dsimp only at hSw); go_simp; first | done | with_reducible rfl)); case' rs55 => (simp only [List.getElem_toArray, List.getElem_cons_zero, List.getElem_cons_succ, Act.put, List.setIfInBounds_toArray, List.set_cons_zero, List.set_cons_succ])); (refine wpAnyL_take (i := 27) (oi := _) (v := ?_) rfl (by kernel_rfl) (by kernel_rfl) (by kernel_rfl) (fun _ _ _ h => h) (Or.inl ⟨by first | rfl | kernel_rfl, ?hy56⟩) (by assumption) ?rs56; (case hy56 => (intro w hSw; (try dsimp only at hSw); go_simp; first | done | with_reducible rfl)); case' rs56 => (simp only [List.getElem_toArray, List.getElem_cons_zero, List.getElem_cons_succ, Act.put, List.setIfInBounds_toArray, List.set_cons_zero, List.set_cons_succ])); skip
      (refine wpAnyL_one (i := 28) (o := _) (by kernel_rfl) rfl (fun K hK => ?_); clear hHeld; simp only [List.getElem_toArray, List.getElem_cons_zero, List.getElem_cons_succ]; go_simp; (go_at_call 18; (with_reducible refine (TXT.out _ _ va).mono ?_); rintro e w3 ⟨rfl, hb⟩; have D := D.trans (hb.mono D.size); have va := VA.out _ D); refine hK.out _ _ ?_ (fun hHeld => ?_); focus (intro _; exact KP.out _ D)); have hHeld := hHeld (by decide); clear hK K; (try simp only [Act.put, List.setIfInBounds_toArray, List.set_cons_zero, List.set_cons_succ])
      (refine wpAnyL_take (i := 29) (oi := _) (v := ?_) rfl (by kernel_rfl) (by kernel_rfl) (by kernel_rfl) (fun _ _ _ h => h) (Or.inl ⟨by first | rfl | kernel_rfl, ?hy57⟩) (by assumption) ?rs57; (case hy57 => (intro w hSw; (try dsimp only at hSw); go_simp; first | done | with_reducible rfl)); case' rs57 => (simp only [List.getElem_toArray, List.getElem_cons_zero, List.getElem_cons_succ, Act.put, List.setIfInBounds_toArray, List.set_cons_zero, List.set_cons_succ])); (refine wpAnyL_take (i := 30) (oi := _) (v := ?_) rfl (by kernel_rfl) (by kernel_rfl) (by kernel_rfl) (fun _ _ _ h => h) (Or.inl ⟨by first | rfl | kernel_rfl, ?hy58⟩) (by assumption) ?rs58; (case hy58 => (intro w hSw; (try dsimp only at hSw); go_simp; first | done | with_reducible rfl)); case' rs58 => (simp only [List.getElem_toArray, List.getElem_cons_zero, List.getElem_cons_succ, Act.put, List.setIfInBounds_toArray, List.set_cons_zero, List.set_cons_succ])); (refine wpAnyL_take (i := 31) (oi := _) (v := ?_) rfl (by kernel_rfl) (by kernel_rfl) (by kernel_rfl) (fun _ _ _ h => h) (Or.inl ⟨by first | rfl | kernel_rfl, ?hy59⟩) (by assumption) ?rs59; (case hy59 => (intro w hSw; (try dsimp only at hSw); go_simp; first | done | with_reducible rfl)); case' rs59 => (simp only [List.getElem_toArray, List.getElem_cons_zero, List.getElem_cons_succ, Act.put, List.setIfInBounds_toArray, List.set_cons_zero, List.set_cons_succ])); (refine wpAnyL_take (i := 32) (oi := _) (v := ?_) rfl (by kernel_rfl) (by kernel_rfl) (by kernel_rfl) (fun _ _ _ h => h) (Or.inl ⟨by first | rfl | kernel_rfl, ?hy60⟩) (by assumption) ?rs60; (case hy60 => (intro w hSw; (try dsimp only at hSw); go_simp; first | done | with_reducible rfl)); case' rs60 => (simp only [List.getElem_toArray, List.getElem_cons_zero, List.getElem_cons_succ, Act.put, List.setIfInBounds_toArray, List.set_cons_zero, List.set_cons_succ])); (refine wpAnyL_take (i := 33) (oi := _) (v := ?_) rfl (by kernel_rfl) (by kernel_rfl) (by kernel_rfl) (fun _ _ _ h => h) (Or.inl ⟨by first | rfl | kernel_rfl, ?hy61⟩) (by assumption) ?rs61; (case hy61 => (intro w hSw; (try dsimp only at hSw); go_simp; first | done | with_reducible rfl)); case' rs61 => (simp only [List.getElem_toArray, List.getElem_cons_zero, List.getElem_cons_succ, Act.put, List.setIfInBounds_toArray, List.set_cons_zero, List.set_cons_succ])); (refine wpAnyL_take (i := 34) (oi := _) (v := ?_) rfl (by kernel_rfl) (by kernel_rfl) (by kernel_rfl) (fun _ _ _ h => h) (Or.inl ⟨by first | rfl | kernel_rfl, ?hy62⟩) (by assumption) ?rs62; (case hy62 => (intro w hSw; (try dsimp only at hSw); go_simp; first | done | with_reducible rfl)); case' rs62 => (simp only [List.getElem_toArray, List.getElem_cons_zero, List.getElem_cons_succ, Act.put, List.setIfInBounds_toArray, List.set_cons_zero, List.set_cons_succ])); skip
      refine wpAnyL_done (by kernel_rfl) ?_ _
      go_wp2
      go_meet
      exact ⟨rfl, D⟩
  case rest =>
    obtain ⟨rfl, hD⟩ := hcut
    have D := hD.out
    obtain ⟨p0, p1⟩ := KP.out _ D
    clear hD D0 e7 hkn i4 PK CK PL CL
    go_upto_region 12 with (go_at_call 15; (with_reducible refine (LS.out _ D).mono ?_); rintro e ws ⟨_, rfl, ⟨bS, AS', nS, cS, rfl, hvs⟩, hb⟩; have DS := D.trans (hb.mono D.size))
    have b9c : Below ws.heap.size ws (ws.alloc (Obj.cells #[Value.bool bS, Value.slice AS' nS cS] 34)) := (Below.refl _ _).alloc (Nat.le_refl _) _
    have X8 := Blk.new ws 34 #[Value.bool bS, Value.slice AS' nS cS]
    have Zs := hvs.zl.below b9c
    have DE := DS.trans (b9c.mono DS.size)
    obtain ⟨we, hwe⟩ : ∃ we, ws.alloc (Obj.cells #[Value.bool bS, Value.slice AS' nS cS] 34) = we := ⟨_, rfl⟩
    obtain ⟨g10, hg10⟩ : ∃ g10, ws.heap.size = g10 := ⟨_, rfl⟩
    rw [hwe] at Zs X8 DE ⊢
    rw [hg10] at X8 ⊢
    have KQ : Hid (∀ W, Below we.heap.size we W → W.cell? ⟨g9, 0, none⟩ = some (.bool ba) ∧ W.cell? ⟨g9, 1, none⟩ = some (.slice Aa na ca) ∧ W.cell? ⟨g10, 0, none⟩ = some (.bool bS) ∧ W.cell? ⟨g10, 1, none⟩ = some (.slice AS' nS cS)) := fun W h =>
      ⟨(KP.out W (DE.trans (h.mono DE.size))).1, (KP.out W (DE.trans (h.mono DE.size))).2, (X8.below h X8.lt).at_ 0 rfl, (X8.below h X8.lt).at_ 1 rfl⟩
    have VQ : Hid (∀ W, Below we.heap.size we W → ZV W (.agg #[.bool ba, .slice Aa na ca]) z ∧ ZV W (.agg #[.bool bS, .slice AS' nS cS]) R) := fun W h => ⟨VA.out W (DE.trans (h.mono DE.size)), (Zs.below h).v⟩
    have LQ : Hid (∀ W va, Below we.heap.size we W → ZV W va R → Calls Tryd.prog 19 #[.slice A3 n3 c3, va] W fun e w' => e = .returned (.bool true) ∧ Below W.heap.size W w') := fun W va h h2 => LM.out W va (DE.trans (h.mono DE.size)) h2
    have X9 : Hid (∀ W, Below we.heap.size we W → NV W (.slice A2 n2 c2) zx ∧ Below w.heap.size w W) := fun W h => ⟨X6.out.below (DE.trans (h.mono DE.size)), (B7.out.trans (DE.mono B7.out.size)).trans (h.mono (Nat.le_trans B7.out.size DE.size))⟩
    clear hwe hg10 b9c X8 hvs hb D DS DE Zs KP VA LM LS X6 B7 p0 p1 R6
    go_cut [168] (fun s168 wx => s168 = .bool false ∧ Hid (Below we.heap.size we wx))
    case first =>
      have D : Below we.heap.size we we.drew := (Below.refl _ _).drew
      have va := (VQ.out _ D).1
      have vs := (VQ.out _ D).2
      have e3' : ¬ 0 < c3v := by omega
      (refine wp_region_L (S := fun w' => w'.cell? ⟨g9, 0, none⟩ = some (.bool ba) ∧ w'.cell? ⟨g9, 1, none⟩ = some (.slice Aa na ca) ∧ w'.cell? ⟨g10, 0, none⟩ = some (.bool bS) ∧ w'.cell? ⟨g10, 1, none⟩ = some (.slice AS' nS cS)) (nl := 1000000) (by kernel_rfl) ?_ (fun hHeld => ?_); focus (exact KQ.out _ D))
      (refine wpAnyL_take (i := 0) (oi := _) (v := ?_) rfl (by kernel_rfl) (by kernel_rfl) (by kernel_rfl) (fun _ _ _ h => h) (Or.inl ⟨by first | rfl | kernel_rfl, ?hy63⟩) (by assumption) ?rs63; (case hy63 => (intro w hSw; (try dsimp only at hSw); go_simp; first | done | with_reducible rfl)); case' rs63 => (simp only [List.getElem_toArray, List.getElem_cons_zero, List.getElem_cons_succ, Act.put, List.setIfInBounds_toArray, List.set_cons_zero, List.set_cons_succ])); (refine wpAnyL_take (i := 1) (oi := _) (v := ?_) rfl (by kernel_rfl) (by kernel_rfl) (by kernel_rfl) (fun _ _ _ h => h) (Or.inl ⟨by first | rfl | kernel_rfl, ?hy64⟩) (by assumption) ?rs64; (case hy64 => (intro w hSw; (try dsimp only at hSw); go_simp; first | done | with_reducible rfl)); case' rs64 => (simp only [List.getElem_toArray, List.getElem_cons_zero, List.getElem_cons_succ, Act.put, List.setIfInBounds_toArray, List.set_cons_zero, List.set_cons_succ])); (refine wpAnyL_take (i := 2) (oi := _) (v := ?_) rfl (by kernel_rfl) (by kernel_rfl) (by kernel_rfl) (fun _ _ _ h => h) (Or.inl ⟨by first | rfl | kernel_rfl, ?hy65⟩) (by assumption) ?rs65; (case hy65 => (intro w hSw; (try dsimp only at hSw); go_simp; first | done | with_reducible rfl)); case' rs65 => (simp only [List.getElem_toArray, List.getElem_cons_zero, List.getElem_cons_succ, Act.put, List.setIfInBounds_toArray, List.set_cons_zero, List.set_cons_succ])); (refine wpAnyL_take (i := 3) (oi := _) (v := ?_) rfl (by kernel_rfl) (by kernel_rfl) (by kernel_rfl) (fun _ _ _ h => h) (Or.inl ⟨by first | rfl | kernel_rfl, ?hy66⟩) (by assumption) ?rs66; (case hy66 => (intro w hSw; (try dsimp only at hSw); go_simp; first | done | with_reducible rfl)); case' rs66 => (simp only [List.getElem_toArray, List.getElem_cons_zero, List.getElem_cons_succ, Act.put, List.setIfInBounds_toArray, List.set_cons_zero, List.set_cons_succ])); (refine wpAnyL_take (i := 4) (oi := _) (v := ?_) rfl (by kernel_rfl) (by kernel_rfl) (by kernel_rfl) (fun _ _ _ h => h) (Or.inl ⟨by first | rfl | kernel_rfl, ?hy67⟩) (by assumption) ?rs67; (case hy67 => (intro w hSw; (try dsimp only at hSw); go_simp; first | done | with_reducible rfl)); case' rs67 => (simp only [List.getElem_toArray, List.getElem_cons_zero, List.getElem_cons_succ, Act.put, List.setIfInBounds_toArray, List.set_cons_zero, List.set_cons_succ])); skip
      (refine wpAnyL_one (i := 5) (o := _) (by kernel_rfl) rfl (fun K hK => ?_); clear hHeld; simp only [List.getElem_toArray, List.getElem_cons_zero, List.getElem_cons_succ]; go_simp; (go_at_call 19; (with_reducible refine (LQ.out _ _ D vs).mono ?_); rintro e w1 ⟨rfl, hb⟩; have D := D.trans (hb.mono D.size); have va := (VQ.out _ D).1; have vs := (VQ.out _ D).2); refine hK.out _ _ ?_ (fun hHeld => ?_); focus (intro _; exact KQ.out _ D)); have hHeld := hHeld (by decide); clear hK K; (try simp only [Act.put, List.setIfInBounds_toArray, List.set_cons_zero, List.set_cons_succ])
      (refine wpAnyL_take (i := 6) (oi := _) (v := ?_) rfl (by kernel_rfl) (by kernel_rfl) (by kernel_rfl) (fun _ _ _ h => h) (Or.inl ⟨by first | rfl | kernel_rfl, ?hy68⟩) (by assumption) ?rs68; (case hy68 => (intro w hSw; (try dsimp only at hSw); go_simp; first | done | with_reducible rfl)); case' rs68 => (simp only [List.getElem_toArray, List.getElem_cons_zero, List.getElem_cons_succ, Act.put, List.setIfInBounds_toArray, List.set_cons_zero, List.set_cons_succ])); (refine wpAnyL_take (i := 7) (oi := _) (v := ?_) rfl (by kernel_rfl) (by kernel_rfl) (by kernel_rfl) (fun _ _ _ h => h) (Or.inl ⟨by first | rfl | kernel_rfl, ?hy69⟩) (by assumption) ?rs69; (case hy69 => (intro w hSw; (try dsimp only at hSw); go_simp; first | done | with_reducible rfl)); case' rs69 => (simp only [List.getElem_toArray, List.getElem_cons_zero, List.getElem_cons_succ, Act.put, List.setIfInBounds_toArray, List.set_cons_zero, List.set_cons_succ])); (refine wpAnyL_take (i := 8) (oi := _) (v := ?_) rfl (by kernel_rfl) (by kernel_rfl) (by kernel_rfl) (fun _ _ _ h => h) (Or.inl ⟨by first | rfl | kernel_rfl, ?hy70⟩) (by assumption) ?rs70; (case hy70 => (intro w hSw; (try dsimp only at hSw); go_simp; first | done | with_reducible rfl)); case' rs70 => (simp only [List.getElem_toArray, List.getElem_cons_zero, List.getElem_cons_succ, Act.put, List.setIfInBounds_toArray, List.set_cons_zero, List.set_cons_succ])); (refine wpAnyL_take (i := 9) (oi := _) (v := ?_) rfl (by kernel_rfl) (by kernel_rfl) (by kernel_rfl) (fun _ _ _ h => h) (Or.inl ⟨by first | rfl | kernel_rfl, ?hy71⟩) (by assumption) ?rs71; (case hy71 => (intro w hSw; (try dsimp only at hSw); go_simp; first | done | with_reducible rfl)); case' rs71 => (simp only [List.getElem_toArray, List.getElem_cons_zero, List.getElem_cons_succ, Act.put, List.setIfInBounds_toArray, List.set_cons_zero, List.set_cons_succ])); (refine wpAnyL_take (i := 10) (oi := _) (v := ?_) rfl (by kernel_rfl) (by kernel_rfl) (by kernel_rfl) (fun _ _ _ h => h) (Or.inl ⟨by first | rfl | kernel_rfl, ?hy72⟩) (by assumption) ?rs72; (case hy72 => (intro w hSw; (try dsimp only at hSw); go_simp; first | done | with_reducible rfl)); case' rs72 => (simp only [List.getElem_toArray, List.getElem_cons_zero, List.getElem_cons_succ, Act.put, List.setIfInBounds_toArray, List.set_cons_zero, List.set_cons_succ])); (refine wpAnyL_take (i := 12) (oi := _) (v := ?_) rfl (by kernel_rfl) (by kernel_rfl) (by kernel_rfl) (fun _ _ _ h => h) (Or.inl ⟨by first | rfl | kernel_rfl, ?hy73⟩) (by assumption) ?rs73; (case hy73 => (intro w hSw; (try dsimp only at hSw); go_simp; first | done | with_reducible rfl)); case' rs73 => (simp only [List.getElem_toArray, List.getElem_cons_zero, List.getElem_cons_succ, Act.put, List.setIfInBounds_toArray, List.set_cons_zero, List.set_cons_succ])); skip
      (refine wpAnyL_one (i := 11) (o := _) (by kernel_rfl) rfl (fun K hK => ?_); clear hHeld; simp only [List.getElem_toArray, List.getElem_cons_zero, List.getElem_cons_succ]; go_simp; (go_at_call 20; (with_reducible refine (MS.out _ _ _ vs vs).mono ?_); rintro e w1 ⟨_, rfl, ⟨b1, A1, n1, c1, rfl, hp⟩, hb⟩; have D := D.trans (hb.mono D.size); have va := (VQ.out _ D).1; have vs := (VQ.out _ D).2); refine hK.out _ _ ?_ (fun hHeld => ?_); focus (intro _; exact KQ.out _ D)); have hHeld := hHeld (by decide); clear hK K; (try simp only [Act.put, List.setIfInBounds_toArray, List.set_cons_zero, List.set_cons_succ])
      (refine wpAnyL_one (i := 13) (o := _) (by kernel_rfl) rfl (fun K hK => ?_); clear hHeld; simp only [List.getElem_toArray, List.getElem_cons_zero, List.getElem_cons_succ]; go_simp; (go_at_call 16; (with_reducible refine (CS.out _ _ _ hp.zl.v va).mono ?_); rintro e w1 ⟨rfl, hb⟩; have D := D.trans (hb.mono D.size); have va := (VQ.out _ D).1; have vs := (VQ.out _ D).2); refine hK.out _ _ ?_ (fun hHeld => ?_); focus (intro _; exact KQ.out _ D)); have hHeld := hHeld (by decide); clear hK K; (try simp only [Act.put, List.setIfInBounds_toArray, List.set_cons_zero, List.set_cons_succ])
      (refine wpAnyL_take (i := 14) (oi := _) (v := ?_) rfl (by kernel_rfl) (by kernel_rfl) (by kernel_rfl) (fun _ _ _ h => h) (Or.inl ⟨by first | rfl | kernel_rfl, ?hy74⟩) (by assumption) ?rs74; (case hy74 => (intro w hSw; (try dsimp only at hSw); go_simp; first | done | with_reducible rfl)); case' rs74 => (simp only [List.getElem_toArray, List.getElem_cons_zero, List.getElem_cons_succ, Act.put, List.setIfInBounds_toArray, List.set_cons_zero, List.set_cons_succ])); (refine wpAnyL_take (i := 15) (oi := _) (v := ?_) rfl (by kernel_rfl) (by kernel_rfl) (by kernel_rfl) (fun _ _ _ h => h) (Or.inl ⟨by first | rfl | kernel_rfl, ?hy75⟩) (by assumption) ?rs75; (case hy75 => (intro w hSw; (try dsimp only at hSw); go_simp; first | done | with_reducible rfl)); case' rs75 => (simp only [List.getElem_toArray, List.getElem_cons_zero, List.getElem_cons_succ, Act.put, List.setIfInBounds_toArray, List.set_cons_zero, List.set_cons_succ])); (refine wpAnyL_take (i := 16) (oi := _) (v := ?_) rfl (by kernel_rfl) (by kernel_rfl) (by kernel_rfl) (fun _ _ _ h => h) (Or.inl ⟨by first | rfl | kernel_rfl, ?hy76⟩) (by assumption) ?rs76; (case hy76 => (intro w hSw; (try dsimp only at hSw); go_simp; first | done | with_reducible rfl)); case' rs76 => (simp only [List.getElem_toArray, List.getElem_cons_zero, List.getElem_cons_succ, Act.put, List.setIfInBounds_toArray, List.set_cons_zero, List.set_cons_succ])); (refine wpAnyL_take (i := 17) (oi := _) (v := ?_) rfl (by kernel_rfl) (by kernel_rfl) (by kernel_rfl) (fun _ _ _ h => h) (Or.inl ⟨by first | rfl | kernel_rfl, ?hy77⟩) (by assumption) ?rs77; (case hy77 => (intro w hSw; (try dsimp only at hSw); go_simp; first | done | with_reducible rfl)); case' rs77 => (simp only [List.getElem_toArray, List.getElem_cons_zero, List.getElem_cons_succ, Act.put, List.setIfInBounds_toArray, List.set_cons_zero, List.set_cons_succ])); (refine wpAnyL_take (i := 20) (oi := _) (v := ?_) rfl (by kernel_rfl) (by kernel_rfl) (by kernel_rfl) (fun _ _ _ h => h) (Or.inl ⟨by first | rfl | kernel_rfl, ?hy78⟩) (by assumption) ?rs78; (case hy78 => (intro w hSw; (try dsimp only at hSw); go_simp; first | done | with_reducible rfl)); case' rs78 => (simp only [List.getElem_toArray, List.getElem_cons_zero, List.getElem_cons_succ, Act.put, List.setIfInBounds_toArray, List.set_cons_zero, List.set_cons_succ])); (refine wpAnyL_take (i := 24) (oi := _) (v := ?_) rfl (by kernel_rfl) (by kernel_rfl) (by kernel_rfl) (fun _ _ _ h => h) (Or.inl ⟨by first | rfl | kernel_rfl, ?hy79⟩) (by assumption) ?rs79; (case hy79 => (intro w hSw; (try dsimp only at hSw); go_simp; first | done | with_reducible rfl)); case' rs79 => (simp only [List.getElem_toArray, List.getElem_cons_zero, List.getElem_cons_succ, Act.put, List.setIfInBounds_toArray, List.set_cons_zero, List.set_cons_succ])); skip
      (refine wpAnyL_one (i := 18) (o := _) (by kernel_rfl) rfl (fun K hK => ?_); clear hHeld; simp only [List.getElem_toArray, List.getElem_cons_zero, List.getElem_cons_succ]; go_simp; (go_at_call 22; (with_reducible refine (N1.out _).mono ?_); rintro e w1 ⟨_, rfl, ⟨b1, A1, n1, c1, rfl, hp⟩, hb⟩; have D := D.trans (hb.mono D.size); have va := (VQ.out _ D).1; have vs := (VQ.out _ D).2); refine hK.out _ _ ?_ (fun hHeld => ?_); focus (intro _; exact KQ.out _ D)); have hHeld := hHeld (by decide); clear hK K; (try simp only [Act.put, List.setIfInBounds_toArray, List.set_cons_zero, List.set_cons_succ])
      (refine wpAnyL_one (i := 19) (o := _) (by kernel_rfl) rfl (fun K hK => ?_); clear hHeld; simp only [List.getElem_toArray, List.getElem_cons_zero, List.getElem_cons_succ]; go_simp; (go_at_call 21; (with_reducible refine (AS.out _ _ _ vs hp.zl.v).mono ?_); rintro e w1 ⟨_, rfl, ⟨b1, A1, n1, c1, rfl, hp⟩, hb⟩; have D := D.trans (hb.mono D.size); have va := (VQ.out _ D).1; have vs := (VQ.out _ D).2; have ha := hp.zl); refine hK.out _ _ ?_ (fun hHeld => ?_); focus (intro _; exact KQ.out _ D)); have hHeld := hHeld (by decide); clear hK K; (try simp only [Act.put, List.setIfInBounds_toArray, List.set_cons_zero, List.set_cons_succ])
      (refine wpAnyL_one (i := 21) (o := _) (by kernel_rfl) rfl (fun K hK => ?_); clear hHeld; simp only [List.getElem_toArray, List.getElem_cons_zero, List.getElem_cons_succ]; go_simp; (go_at_call 22; (with_reducible refine (N1.out _).mono ?_); rintro e w1 ⟨_, rfl, ⟨b1, A1, n1, c1, rfl, hp⟩, hb⟩; have D := D.trans (hb.mono D.size); have va := (VQ.out _ D).1; have vs := (VQ.out _ D).2; have ha := ha.below hb); refine hK.out _ _ ?_ (fun hHeld => ?_); focus (intro _; exact KQ.out _ D)); have hHeld := hHeld (by decide); clear hK K; (try simp only [Act.put, List.setIfInBounds_toArray, List.set_cons_zero, List.set_cons_succ])
      (refine wpAnyL_one (i := 22) (o := _) (by kernel_rfl) rfl (fun K hK => ?_); clear hHeld; simp only [List.getElem_toArray, List.getElem_cons_zero, List.getElem_cons_succ]; go_simp; (go_at_call 21; (with_reducible refine (AS.out _ _ _ vs hp.zl.v).mono ?_); rintro e w1 ⟨_, rfl, ⟨b1, A1, n1, c1, rfl, hp⟩, hb⟩; have D := D.trans (hb.mono D.size); have va := (VQ.out _ D).1; have vs := (VQ.out _ D).2; have ha := ha.below hb); refine hK.out _ _ ?_ (fun hHeld => ?_); focus (intro _; exact KQ.out _ D)); have hHeld := hHeld (by decide); clear hK K; (try simp only [Act.put, List.setIfInBounds_toArray, List.set_cons_zero, List.set_cons_succ])
      (refine wpAnyL_one (i := 23) (o := _) (by kernel_rfl) rfl (fun K hK => ?_); clear hHeld; simp only [List.getElem_toArray, List.getElem_cons_zero, List.getElem_cons_succ]; go_simp; (go_at_call 20; (with_reducible refine (MT.out _ _ _ ha.v hp.zl.v).mono ?_); rintro e w1 ⟨_, rfl, ⟨b1, A1, n1, c1, rfl, hp⟩, hb⟩; have D := D.trans (hb.mono D.size); have va := (VQ.out _ D).1; have vs := (VQ.out _ D).2); refine hK.out _ _ ?_ (fun hHeld => ?_); focus (intro _; exact KQ.out _ D)); have hHeld := hHeld (by decide); clear hK K; (try simp only [Act.put, List.setIfInBounds_toArray, List.set_cons_zero, List.set_cons_succ])
      (refine wpAnyL_one (i := 25) (o := _) (by kernel_rfl) rfl (fun K hK => ?_); clear hHeld; simp only [List.getElem_toArray, List.getElem_cons_zero, List.getElem_cons_succ]; go_simp; (go_at_call 16; (with_reducible refine (CT.out _ _ _ hp.zl.v va).mono ?_); rintro e w1 ⟨rfl, hb⟩; have D := D.trans (hb.mono D.size); have va := (VQ.out _ D).1; have vs := (VQ.out _ D).2); refine hK.out _ _ ?_ (fun hHeld => ?_); focus (intro _; exact KQ.out _ D)); have hHeld := hHeld (by decide); clear hK K; (try simp only [Act.put, List.setIfInBounds_toArray, List.set_cons_zero, List.set_cons_succ])
      (refine wpAnyL_take (i := 26) (oi := _) (v := ?_) rfl (by kernel_rfl) (by kernel_rfl) (by kernel_rfl) (fun _ _ _ h => h) (Or.inl ⟨by first | rfl | kernel_rfl, ?hy80⟩) (by assumption) ?rs80; (case hy80 => (intro w hSw; (try dsimp only at hSw); go_simp; first | done | with_reducible rfl)); case' rs80 => (simp only [List.getElem_toArray, List.getElem_cons_zero, List.getElem_cons_succ, Act.put, List.setIfInBounds_toArray, List.set_cons_zero, List.set_cons_succ])); (refine wpAnyL_take (i := 27) (oi := _) (v := ?_) rfl (by kernel_rfl) (by kernel_rfl) (by kernel_rfl) (fun _ _ _ h => h) (Or.inl ⟨by first | rfl | kernel_rfl, ?hy81⟩) (by assumption) ?rs81; (case hy81 => (intro w hSw; (try dsimp only at hSw); go_simp; first | done | with_reducible rfl)); case' rs81 => (simp only [List.getElem_toArray, List.getElem_cons_zero, List.getElem_cons_succ, Act.put, List.setIfInBounds_toArray, List.set_cons_zero, List.set_cons_succ])); (refine wpAnyL_take (i := 28) (oi := _) (v := ?_) rfl (by kernel_rfl) (by kernel_rfl) (by kernel_rfl) (fun _ _ _ h => h) (Or.inl ⟨by first | rfl | kernel_rfl, ?hy82⟩) (by assumption) ?rs82; (case hy82 => (intro w hSw; (try dsimp only at hSw); go_simp; first | done | with_reducible rfl)); case' rs82 => (simp only [List.getElem_toArray, List.getElem_cons_zero, List.getElem_cons_succ, Act.put, List.setIfInBounds_toArray, List.set_cons_zero, List.set_cons_succ])); (refine wpAnyL_take (i := 29) (oi := _) (v := ?_) rfl (by kernel_rfl) (by kernel_rfl) (by kernel_rfl) (fun _ _ _ h => h) (Or.inl ⟨by first | rfl | kernel_rfl, ?hy83⟩) (by assumption) ?rs83; (case hy83 => (intro w hSw; (try dsimp only at hSw); go_simp; first | done | with_reducible rfl)); case' rs83 => (simp only [List.getElem_toArray, List.getElem_cons_zero, List.getElem_cons_succ, Act.put, List.setIfInBounds_toArray, List.set_cons_zero, List.set_cons_succ])); (refine wpAnyL_take (i := 30) (oi := _) (v := ?_) rfl (by kernel_rfl) (by kernel_rfl) (by kernel_rfl) (fun _ _ _ h => h) (Or.inl ⟨by first | rfl | kernel_rfl, ?hy84⟩) (by assumption) ?rs84; (case hy84 => (intro w hSw; (try dsimp only at hSw); go_simp; first | done | with_reducible rfl)); case' rs84 => (simp only [List.getElem_toArray, List.getElem_cons_zero, List.getElem_cons_succ, Act.put, List.setIfInBounds_toArray, List.set_cons_zero, List.set_cons_succ])); (refine wpAnyL_take (i := 31) (oi := _) (v := ?_) rfl (by kernel_rfl) (by kernel_rfl) (by kernel_rfl) (fun _ _ _ h => h) (Or.inl ⟨by first | rfl | kernel_rfl, ?hy85⟩) (by assumption) ?rs85; (case hy85 => (intro w hSw; (try dsimp only at hSw); go_simp; first | done | with_reducible rfl)); case' rs85 => (simp only [List.getElem_toArray, List.getElem_cons_zero, List.getElem_cons_succ, Act.put, List.setIfInBounds_toArray, List.set_cons_zero, List.set_cons_succ])); (refine wpAnyL_take (i := 33) (oi := _) (v := ?_) rfl (by kernel_rfl) (by kernel_rfl) (by kernel_rfl) (fun _ _ _ h => h) (Or.inl ⟨by first | rfl | kernel_rfl, ?hy86⟩) (by assumption) ?rs86; (case hy86 => (intro w hSw; (try dsimp only at hSw); go_simp; first | done | with_reducible rfl)); case' rs86 => (simp only [List.getElem_toArray, List.getElem_cons_zero, List.getElem_cons_succ, Act.put, List.setIfInBounds_toArray, List.set_cons_zero, List.set_cons_succ])); skip
      (refine wpAnyL_one (i := 32) (o := _) (by kernel_rfl) rfl (fun K hK => ?_); clear hHeld; simp only [List.getElem_toArray, List.getElem_cons_zero, List.getElem_cons_succ]; go_simp; (go_at_call 20; (with_reducible refine (MS.out _ _ _ vs vs).mono ?_); rintro e w1 ⟨_, rfl, ⟨b1, A1, n1, c1, rfl, hp⟩, hb⟩; have D := D.trans (hb.mono D.size); have va := (VQ.out _ D).1; have vs := (VQ.out _ D).2); refine hK.out _ _ ?_ (fun hHeld => ?_); focus (intro _; exact KQ.out _ D)); have hHeld := hHeld (by decide); clear hK K; (try simp only [Act.put, List.setIfInBounds_toArray, List.set_cons_zero, List.set_cons_succ])
      (refine wpAnyL_one (i := 34) (o := _) (by kernel_rfl) rfl (fun K hK => ?_); clear hHeld; simp only [List.getElem_toArray, List.getElem_cons_zero, List.getElem_cons_succ]; go_simp; (go_at_call 16; (with_reducible refine (CS.out _ _ _ hp.zl.v va).mono ?_); rintro e w1 ⟨rfl, hb⟩; have D := D.trans (hb.mono D.size); have va := (VQ.out _ D).1; have vs := (VQ.out _ D).2); refine hK.out _ _ ?_ (fun hHeld => ?_); focus (intro _; exact KQ.out _ D)); have hHeld := hHeld (by decide); clear hK K; (try simp only [Act.put, List.setIfInBounds_toArray, List.set_cons_zero, List.set_cons_succ])
      (refine wpAnyL_take (i := 35) (oi := _) (v := ?_) rfl (by kernel_rfl) (by kernel_rfl) (by kernel_rfl) (fun _ _ _ h => h) (Or.inl ⟨by first | rfl | kernel_rfl, ?hy87⟩) (by assumption) ?rs87; (case hy87 => (intro w hSw; (try dsimp only at hSw); go_simp; first | done | with_reducible rfl)); case' rs87 => (simp only [List.getElem_toArray, List.getElem_cons_zero, List.getElem_cons_succ, Act.put, List.setIfInBounds_toArray, List.set_cons_zero, List.set_cons_succ])); (refine wpAnyL_take (i := 36) (oi := _) (v := ?_) rfl (by kernel_rfl) (by kernel_rfl) (by kernel_rfl) (fun _ _ _ h => h) (Or.inl ⟨by first | rfl | kernel_rfl, ?hy88⟩) (by assumption) ?rs88; (case hy88 => (intro w hSw; (try dsimp only at hSw); go_simp; first | done | with_reducible rfl)); case' rs88 => (simp only [List.getElem_toArray, List.getElem_cons_zero, List.getElem_cons_succ, Act.put, List.setIfInBounds_toArray, List.set_cons_zero, List.set_cons_succ])); (refine wpAnyL_take (i := 37) (oi := _) (v := ?_) rfl (by kernel_rfl) (by kernel_rfl) (by kernel_rfl) (fun _ _ _ h => h) (Or.inl ⟨by first | rfl | kernel_rfl, ?hy89⟩) (by assumption) ?rs89; (case hy89 => (intro w hSw; (try dsimp only at hSw); go_simp; first | done | with_reducible rfl)); case' rs89 => (simp only [List.getElem_toArray, List.getElem_cons_zero, List.getElem_cons_succ, Act.put, List.setIfInBounds_toArray, List.set_cons_zero, List.set_cons_succ])); skip
      refine wpAnyL_done (by kernel_rfl) ?_ _
      go_wp2
      go_meet
      first | exact ⟨rfl, D⟩ | exact ⟨congrArg Value.bool E4.out, D⟩
    case rest =>
      obtain ⟨rfl, hD⟩ := hcut
      have D := hD.out
      have hX := X9.out _ D
      have BX := hX.2
      clear hD MS AS MT CS CT N1 LQ e3 e4 E4 HR
      rcases HW.out with ⟨h1, rfl, rfl, rfl⟩ | ⟨h1, h2, rfl, rfl, P, rfl, hP3, hP, hPb⟩ | ⟨h1, h2, rfl, P, hP0, rfl, hP3, hbl, hPr, hP, hPb⟩
      · obtain rfl := NV.zero hX.1
        clear HW hX X9
        go_wp2_with (go_at_call 23; (with_reducible refine (Between_f n _ _ h1 _).mono ?_); rintro e w1 ⟨rfl, rfl⟩)
        go_ret
        exact ⟨rfl, BX⟩
      · have HP := Lib.hid hP
        have HPB := Lib.hid hPb
        have HP3 := Lib.hid hP3
        have hXN := Lib.hid hX.1
        have h3 : ¬ n < 0 := by omega
        have MZ : Hid (∀ W va vb, ZV W va z → ZV W vb P → Calls Tryd.prog 20 #[va, vb] W (RetZ W (z * P))) := fun W va vb h1 h2 => ZC.ZMul_c va vb _ _ W h1 h2 BZ.out.2 HPB.out
        have LX : Hid (∀ W va, Below we.heap.size we W → ZV W va (z * P) → Calls Tryd.prog 19 #[.slice A2 n2 c2, va] W fun e w' => e = .returned (.bool true) ∧ Below W.heap.size W w') := fun W va h h2 => limbed_nv _ va _ W (X9.out W h).1 h2 HP3.out
        clear HW hX hP hPb hP3 hXN
        go_upto_region 17 with (go_at_call 23; (with_reducible refine (Between_t n _ _ (by omega) (by omega) _).mono ?_); rintro e w1 ⟨rfl, rfl⟩)
        have D := D.drew
        have va := (VQ.out _ D).1
        (refine wp_region_L (S := fun w' => w'.cell? ⟨g9, 0, none⟩ = some (.bool ba) ∧ w'.cell? ⟨g9, 1, none⟩ = some (.slice Aa na ca) ∧ w'.cell? ⟨g10, 0, none⟩ = some (.bool bS) ∧ w'.cell? ⟨g10, 1, none⟩ = some (.slice AS' nS cS)) (nl := 1000000) (by kernel_rfl) ?_ (fun hHeld => ?_); focus (exact KQ.out _ D))
        (refine wpAnyL_take (i := 0) (oi := _) (v := ?_) rfl (by kernel_rfl) (by kernel_rfl) (by kernel_rfl) (fun _ _ _ h => h) (Or.inl ⟨by first | rfl | kernel_rfl, ?hy90⟩) (by assumption) ?rs90; (case hy90 => (intro w hSw; (try dsimp only at hSw); go_simp; first | done | with_reducible rfl)); case' rs90 => (simp only [List.getElem_toArray, List.getElem_cons_zero, List.getElem_cons_succ, Act.put, List.setIfInBounds_toArray, List.set_cons_zero, List.set_cons_succ])); (refine wpAnyL_take (i := 1) (oi := _) (v := ?_) rfl (by kernel_rfl) (by kernel_rfl) (by kernel_rfl) (fun _ _ _ h => h) (Or.inl ⟨by first | rfl | kernel_rfl, ?hy91⟩) (by assumption) ?rs91; (case hy91 => (intro w hSw; (try dsimp only at hSw); go_simp; first | done | with_reducible rfl)); case' rs91 => (simp only [List.getElem_toArray, List.getElem_cons_zero, List.getElem_cons_succ, Act.put, List.setIfInBounds_toArray, List.set_cons_zero, List.set_cons_succ])); (refine wpAnyL_take (i := 2) (oi := _) (v := ?_) rfl (by kernel_rfl) (by kernel_rfl) (by kernel_rfl) (fun _ _ _ h => h) (Or.inl ⟨by first | rfl | kernel_rfl, ?hy92⟩) (by assumption) ?rs92; (case hy92 => (intro w hSw; (try dsimp only at hSw); go_simp; first | done | with_reducible rfl)); case' rs92 => (simp only [List.getElem_toArray, List.getElem_cons_zero, List.getElem_cons_succ, Act.put, List.setIfInBounds_toArray, List.set_cons_zero, List.set_cons_succ])); skip
        (refine wpAnyL_one (i := 3) (o := _) (by kernel_rfl) rfl (fun K hK => ?_); clear hHeld; simp only [List.getElem_toArray, List.getElem_cons_zero, List.getElem_cons_succ]; go_simp; (go_at_call 17; (with_reducible refine (HP.out _).mono ?_); rintro e w1 ⟨_, rfl, ⟨b1, A1, n1, c1, rfl, hp⟩, hb⟩; have D := D.trans (hb.mono D.size); have va := (VQ.out _ D).1); refine hK.out _ _ ?_ (fun hHeld => ?_); focus (intro _; exact KQ.out _ D)); have hHeld := hHeld (by decide); clear hK K; (try simp only [Act.put, List.setIfInBounds_toArray, List.set_cons_zero, List.set_cons_succ])
        (refine wpAnyL_one (i := 4) (o := _) (by kernel_rfl) rfl (fun K hK => ?_); clear hHeld; simp only [List.getElem_toArray, List.getElem_cons_zero, List.getElem_cons_succ]; go_simp; (go_at_call 20; (with_reducible refine (MZ.out _ _ _ va hp.zl.v).mono ?_); rintro e w1 ⟨_, rfl, ⟨b1, A1, n1, c1, rfl, hp⟩, hb⟩; have D := D.trans (hb.mono D.size); have va := (VQ.out _ D).1); refine hK.out _ _ ?_ (fun hHeld => ?_); focus (intro _; exact KQ.out _ D)); have hHeld := hHeld (by decide); clear hK K; (try simp only [Act.put, List.setIfInBounds_toArray, List.set_cons_zero, List.set_cons_succ])
        (refine wpAnyL_one (i := 5) (o := _) (by kernel_rfl) rfl (fun K hK => ?_); clear hHeld; simp only [List.getElem_toArray, List.getElem_cons_zero, List.getElem_cons_succ]; go_simp; (go_at_call 19; (with_reducible refine (LX.out _ _ D hp.zl.v).mono ?_); rintro e w1 ⟨rfl, hb⟩; have D := D.trans (hb.mono D.size); have va := (VQ.out _ D).1); refine hK.out _ _ ?_ (fun hHeld => ?_); focus (intro _; exact KQ.out _ D)); have hHeld := hHeld (by decide); clear hK K; (try simp only [Act.put, List.setIfInBounds_toArray, List.set_cons_zero, List.set_cons_succ])
        (refine wpAnyL_take (i := 6) (oi := _) (v := ?_) rfl (by kernel_rfl) (by kernel_rfl) (by kernel_rfl) (fun _ _ _ h => h) (Or.inl ⟨by first | rfl | kernel_rfl, ?hy93⟩) (by assumption) ?rs93; (case hy93 => (intro w hSw; (try dsimp only at hSw); go_simp; first | done | with_reducible rfl)); case' rs93 => (simp only [List.getElem_toArray, List.getElem_cons_zero, List.getElem_cons_succ, Act.put, List.setIfInBounds_toArray, List.set_cons_zero, List.set_cons_succ])); (refine wpAnyL_take (i := 7) (oi := _) (v := ?_) rfl (by kernel_rfl) (by kernel_rfl) (by kernel_rfl) (fun _ _ _ h => h) (Or.inl ⟨by first | rfl | kernel_rfl, ?hy94⟩) (by assumption) ?rs94; (case hy94 => (intro w hSw; (try dsimp only at hSw); go_simp; first | done | with_reducible rfl)); case' rs94 => (simp only [List.getElem_toArray, List.getElem_cons_zero, List.getElem_cons_succ, Act.put, List.setIfInBounds_toArray, List.set_cons_zero, List.set_cons_succ])); (refine wpAnyL_take (i := 8) (oi := _) (v := ?_) rfl (by kernel_rfl) (by kernel_rfl) (by kernel_rfl) (fun _ _ _ h => h) (Or.inl ⟨by first | rfl | kernel_rfl, ?hy95⟩) (by assumption) ?rs95; (case hy95 => (intro w hSw; (try dsimp only at hSw); go_simp; first | done | with_reducible rfl)); case' rs95 => (simp only [List.getElem_toArray, List.getElem_cons_zero, List.getElem_cons_succ, Act.put, List.setIfInBounds_toArray, List.set_cons_zero, List.set_cons_succ])); (refine wpAnyL_take (i := 9) (oi := _) (v := ?_) rfl (by kernel_rfl) (by kernel_rfl) (by kernel_rfl) (fun _ _ _ h => h) (Or.inl ⟨by first | rfl | kernel_rfl, ?hy96⟩) (by assumption) ?rs96; (case hy96 => (intro w hSw; (try dsimp only at hSw); go_simp; first | done | with_reducible rfl)); case' rs96 => (simp only [List.getElem_toArray, List.getElem_cons_zero, List.getElem_cons_succ, Act.put, List.setIfInBounds_toArray, List.set_cons_zero, List.set_cons_succ])); (refine wpAnyL_take (i := 10) (oi := _) (v := ?_) rfl (by kernel_rfl) (by kernel_rfl) (by kernel_rfl) (fun _ _ _ h => h) (Or.inl ⟨by first | rfl | kernel_rfl, ?hy97⟩) (by assumption) ?rs97; (case hy97 => (intro w hSw; (try dsimp only at hSw); go_simp; first | done | with_reducible rfl)); case' rs97 => (simp only [List.getElem_toArray, List.getElem_cons_zero, List.getElem_cons_succ, Act.put, List.setIfInBounds_toArray, List.set_cons_zero, List.set_cons_succ])); (refine wpAnyL_take (i := 11) (oi := _) (v := ?_) rfl (by kernel_rfl) (by kernel_rfl) (by kernel_rfl) (fun _ _ _ h => h) (Or.inl ⟨by first | rfl | kernel_rfl, ?hy98⟩) (by assumption) ?rs98; (case hy98 => (intro w hSw; (try dsimp only at hSw); go_simp; first | done | with_reducible rfl)); case' rs98 => (simp only [List.getElem_toArray, List.getElem_cons_zero, List.getElem_cons_succ, Act.put, List.setIfInBounds_toArray, List.set_cons_zero, List.set_cons_succ])); (refine wpAnyL_take (i := 12) (oi := _) (v := ?_) rfl (by kernel_rfl) (by kernel_rfl) (by kernel_rfl) (fun _ _ _ h => h) (Or.inl ⟨by first | rfl | kernel_rfl, ?hy99⟩) (by assumption) ?rs99; (case hy99 => (intro w hSw; (try dsimp only at hSw); go_simp; first | done | with_reducible rfl)); case' rs99 => (simp only [List.getElem_toArray, List.getElem_cons_zero, List.getElem_cons_succ, Act.put, List.setIfInBounds_toArray, List.set_cons_zero, List.set_cons_succ])); (refine wpAnyL_take (i := 13) (oi := _) (v := ?_) rfl (by kernel_rfl) (by kernel_rfl) (by kernel_rfl) (fun _ _ _ h => h) (Or.inl ⟨by first | rfl | kernel_rfl, ?hy100⟩) (by assumption) ?rs100; (case hy100 => (intro w hSw; (try dsimp only at hSw); go_simp; first | done | with_reducible rfl)); case' rs100 => (simp only [List.getElem_toArray, List.getElem_cons_zero, List.getElem_cons_succ, Act.put, List.setIfInBounds_toArray, List.set_cons_zero, List.set_cons_succ])); (refine wpAnyL_take (i := 14) (oi := _) (v := ?_) rfl (by kernel_rfl) (by kernel_rfl) (by kernel_rfl) (fun _ _ _ h => h) (Or.inl ⟨by first | rfl | kernel_rfl, ?hy101⟩) (by assumption) ?rs101; (case hy101 => (intro w hSw; (try dsimp only at hSw); go_simp; first | done | with_reducible rfl)); case' rs101 => (simp only [List.getElem_toArray, List.getElem_cons_zero, List.getElem_cons_succ, Act.put, List.setIfInBounds_toArray, List.set_cons_zero, List.set_cons_succ])); skip
        refine wpAnyL_done (by kernel_rfl) ?_ _
        have BX := (X9.out _ D).2
        go_wp2
        go_ret
        exact ⟨rfl, BX⟩
      · have HP := Lib.hid hP
        have HPB := Lib.hid hPb
        have HP3 := Lib.hid hP3
        have HP0 := Lib.hid hP0
        have HPR := Lib.hid hPr
        have h3 : ¬ 0 ≤ n := by omega
        have i5 : IntKind.i64.wrap (-n) = -n := IntWalk.i64_in _ (by omega)
        have DZ : Hid (∀ W va vb, ZV W va z → ZV W vb P → Calls Tryd.prog 24 #[va, vb] W (ZC.RetZZ W (z / P) (z % P))) := fun W va vb h1 h2 => ZC.ZDiv_c va vb _ _ W h1 h2 BZ.out.1 HPB.out HP0.out
        have LX : Hid (∀ W va, Below we.heap.size we W → ZV W va (z / P) → Calls Tryd.prog 19 #[.slice A2 n2 c2, va] W fun e w' => e = .returned (.bool true) ∧ Below W.heap.size W w') := fun W va h h2 => limbed_nv _ va _ W (X9.out W h).1 h2 HP3.out
        obtain ⟨c5, hc5⟩ : ∃ t, cmpv (z % P) 0 = t := ⟨_, rfl⟩
        have SG : Hid (∀ W va, ZV W va (z % P) → Calls Tryd.prog 25 #[va] W fun e w' => e = .returned (.int .i64 c5) ∧ Below W.heap.size W w') := fun W va h => by
          rw [← hc5]; exact ZC.ZSign_c va _ W h HPR.out
        have h5 : bl = decide (0 < c5) := by
          rw [hbl, ← hc5]
          by_cases h : 0 < z % P
          · rw [Z.cmpv_gt h]; simp [h]
          · have : cmpv (z % P) 0 ≤ 0 := by
              unfold cmpv
              rw [if_neg (show ¬ 0 < z % P from h)]
              split <;> omega
            rw [decide_eq_false h, decide_eq_false (by omega)]
        have h6 : (bl = true ∧ 0 < c5) ∨ (bl = false ∧ ¬ 0 < c5) := by
          by_cases h : 0 < c5
          · exact .inl ⟨by rw [h5]; simp [h], h⟩
          · exact .inr ⟨by rw [h5]; simp [h], h⟩
        clear HW hX hP hPb hP3 hP0 hPr hbl hc5 h5
        go_upto_region 18 with (go_at_call 23; (with_reducible refine (Between_t n _ _ (by omega) (by omega) _).mono ?_); rintro e w1 ⟨rfl, rfl⟩)
        go_cut [18, 19] (fun s18 s19 wx => QD we wx s18 s19 (z / P) (z % P))
        case first =>
          have D := D.drew
          (refine wp_region_L (S := fun w' => w'.cell? ⟨g9, 0, none⟩ = some (.bool ba) ∧ w'.cell? ⟨g9, 1, none⟩ = some (.slice Aa na ca) ∧ w'.cell? ⟨g10, 0, none⟩ = some (.bool bS) ∧ w'.cell? ⟨g10, 1, none⟩ = some (.slice AS' nS cS)) (nl := 1000000) (by kernel_rfl) ?_ (fun hHeld => ?_); focus (exact KQ.out _ D))
          (refine wpAnyL_take (i := 0) (oi := _) (v := ?_) rfl (by kernel_rfl) (by kernel_rfl) (by kernel_rfl) (fun _ _ _ h => h) (Or.inl ⟨by first | rfl | kernel_rfl, ?hy102⟩) (by assumption) ?rs102; (case hy102 => (intro w hSw; (try dsimp only at hSw); go_simp; first | done | with_reducible rfl)); case' rs102 => (simp only [List.getElem_toArray, List.getElem_cons_zero, List.getElem_cons_succ, Act.put, List.setIfInBounds_toArray, List.set_cons_zero, List.set_cons_succ])); (refine wpAnyL_take (i := 1) (oi := _) (v := ?_) rfl (by kernel_rfl) (by kernel_rfl) (by kernel_rfl) (fun _ _ _ h => h) (Or.inl ⟨by first | rfl | kernel_rfl, ?hy103⟩) (by assumption) ?rs103; (case hy103 => (intro w hSw; (try dsimp only at hSw); go_simp; first | done | with_reducible rfl)); case' rs103 => (simp only [List.getElem_toArray, List.getElem_cons_zero, List.getElem_cons_succ, Act.put, List.setIfInBounds_toArray, List.set_cons_zero, List.set_cons_succ])); (refine wpAnyL_take (i := 2) (oi := _) (v := ?_) rfl (by kernel_rfl) (by kernel_rfl) (by kernel_rfl) (fun _ _ _ h => h) (Or.inl ⟨by first | rfl | kernel_rfl, ?hy104⟩) (by assumption) ?rs104; (case hy104 => (intro w hSw; (try dsimp only at hSw); go_simp; first | done | with_reducible rfl)); case' rs104 => (simp only [List.getElem_toArray, List.getElem_cons_zero, List.getElem_cons_succ, Act.put, List.setIfInBounds_toArray, List.set_cons_zero, List.set_cons_succ])); skip
          refine wpAnyL_three (i := 3) (j := 8) (k := 9) (oi := _) (oj := _) (ok := _) (by kernel_rfl) rfl rfl rfl (fun K hK => ?_) (fun K hK => ?_) (fun K hK => ?_)
          · as_aux_lemma =>
              (clear hHeld; simp only [List.getElem_toArray, List.getElem_cons_zero, List.getElem_cons_succ]; go_simp; (go_at_call 17; (with_reducible refine (HP.out _).mono ?_); rintro e w3 ⟨_, rfl, ⟨b1, A1, n1, c1, rfl, hp0⟩, hb⟩; have hp := hp0.zl; have D := D.trans (hb.mono D.size)); refine hK.out _ _ ?_ (fun hHeld => ?_); focus (intro _; exact KQ.out _ D)); have hHeld := hHeld (by decide); clear hK K; (try simp only [Act.put, List.setIfInBounds_toArray, List.set_cons_zero, List.set_cons_succ])
              refine wpAnyL_three (i := 4) (j := 8) (k := 9) (oi := _) (oj := _) (ok := _) (by kernel_rfl) rfl rfl rfl (fun K hK => ?_) (fun K hK => ?_) (fun K hK => ?_)
              · as_aux_lemma =>
                  (clear hHeld; simp only [List.getElem_toArray, List.getElem_cons_zero, List.getElem_cons_succ]; go_simp; (go_at_call 24; (with_reducible refine (DZ.out _ _ _ (VQ.out _ D).1 hp.v).mono ?_); rintro e w4 ⟨_, _, rfl, ⟨bq, Aq, nq, cq, rfl, hq⟩, ⟨br', Ar, nr, cr, rfl, hr⟩, hb⟩; have D := D.trans (hb.mono D.size)); refine hK.out _ _ ?_ (fun hHeld => ?_); focus (intro _; exact KQ.out _ D)); have hHeld := hHeld (by decide); clear hK K; (try simp only [Act.put, List.setIfInBounds_toArray, List.set_cons_zero, List.set_cons_succ])
                  (refine wpAnyL_take (i := 5) (oi := _) (v := ?_) rfl (by kernel_rfl) (by kernel_rfl) (by kernel_rfl) (fun _ _ _ h => h) (Or.inl ⟨by first | rfl | kernel_rfl, ?hy105⟩) (by assumption) ?rs105; (case hy105 => (intro w hSw; (try dsimp only at hSw); go_simp; first | done | with_reducible rfl)); case' rs105 => (simp only [List.getElem_toArray, List.getElem_cons_zero, List.getElem_cons_succ, Act.put, List.setIfInBounds_toArray, List.set_cons_zero, List.set_cons_succ])); (refine wpAnyL_take (i := 6) (oi := _) (v := ?_) rfl (by kernel_rfl) (by kernel_rfl) (by kernel_rfl) (fun _ _ _ h => h) (Or.inl ⟨by first | rfl | kernel_rfl, ?hy106⟩) (by assumption) ?rs106; (case hy106 => (intro w hSw; (try dsimp only at hSw); go_simp; first | done | with_reducible rfl)); case' rs106 => (simp only [List.getElem_toArray, List.getElem_cons_zero, List.getElem_cons_succ, Act.put, List.setIfInBounds_toArray, List.set_cons_zero, List.set_cons_succ])); (refine wpAnyL_take (i := 7) (oi := _) (v := ?_) rfl (by kernel_rfl) (by kernel_rfl) (by kernel_rfl) (fun _ _ _ h => h) (Or.inl ⟨by first | rfl | kernel_rfl, ?hy107⟩) (by assumption) ?rs107; (case hy107 => (intro w hSw; (try dsimp only at hSw); go_simp; first | done | with_reducible rfl)); case' rs107 => (simp only [List.getElem_toArray, List.getElem_cons_zero, List.getElem_cons_succ, Act.put, List.setIfInBounds_toArray, List.set_cons_zero, List.set_cons_succ])); skip
                  refine wpAnyL_two (i := 8) (j := 9) (oi := _) (oj := _) (by kernel_rfl) rfl rfl (fun K hK => ?_) (fun K hK => ?_)
                  · as_aux_lemma =>
                      (clear hHeld; simp only [List.getElem_toArray, List.getElem_cons_zero, List.getElem_cons_succ]; go_simp; refine hK.out _ _ ?_ (fun hHeld => ?_); focus (intro _; exact KQ.out _ (D.alloc D.size _))); have hHeld := hHeld (by decide); clear hK K; (try simp only [Act.put, List.setIfInBounds_toArray, List.set_cons_zero, List.set_cons_succ])
                      have G' := Blk.new w4 34 #[.bool false, .slice none 0 0]
                      have Gn : we.heap.size ≤ w4.heap.size := D.size
                      have hq := (hq.alloc (.cells #[.bool false, .slice none 0 0] 34))
                      have hr := (hr.alloc (.cells #[.bool false, .slice none 0 0] 34))
                      have D1 : Below we.heap.size we (w4.alloc (.cells #[.bool false, .slice none 0 0] 34)) := D.alloc D.size (.cells #[.bool false, .slice none 0 0] 34)
                      clear D
                      have D := D1
                      clear D1
                      obtain ⟨w8, hw8⟩ : ∃ w8, w4.alloc (.cells #[.bool false, .slice none 0 0] 34) = w8 := ⟨_, rfl⟩
                      obtain ⟨Gg, hGg⟩ : ∃ Gg, w4.heap.size = Gg := ⟨_, rfl⟩
                      rw [hw8] at G' D hq hr hHeld ⊢
                      rw [hGg] at G' Gn ⊢
                      have G := G'
                      clear G' hw8 hGg
                      (refine wpAnyL_one (i := 9) (o := _) (by kernel_rfl) rfl (fun K hK => ?_); clear hHeld; simp only [List.getElem_toArray, List.getElem_cons_zero, List.getElem_cons_succ]; go_simp; refine hK.out _ _ ?_ (fun hHeld => ?_); focus (intro _; exact KQ.out _ (D.alloc D.size _))); have hHeld := hHeld (by decide); clear hK K; (try simp only [Act.put, List.setIfInBounds_toArray, List.set_cons_zero, List.set_cons_succ])
                      have H' := Blk.new w8 34 #[.bool false, .slice none 0 0]
                      have Hn : we.heap.size ≤ w8.heap.size := D.size
                      have hne : Gg ≠ w8.heap.size := Nat.ne_of_lt G.lt
                      have G := G.alloc (.cells #[.bool false, .slice none 0 0] 34)
                      have hq := (hq.alloc (.cells #[.bool false, .slice none 0 0] 34))
                      have hr := (hr.alloc (.cells #[.bool false, .slice none 0 0] 34))
                      have D1 : Below we.heap.size we (w8.alloc (.cells #[.bool false, .slice none 0 0] 34)) := D.alloc D.size (.cells #[.bool false, .slice none 0 0] 34)
                      clear D
                      have D := D1
                      clear D1
                      obtain ⟨w9, hw9⟩ : ∃ w9, w8.alloc (.cells #[.bool false, .slice none 0 0] 34) = w9 := ⟨_, rfl⟩
                      obtain ⟨Hg, hHg⟩ : ∃ Hg, w8.heap.size = Hg := ⟨_, rfl⟩
                      rw [hw9] at H' D G hq hr hHeld ⊢
                      rw [hHg] at H' Hn hne ⊢
                      have H := H'
                      clear H' hw9 hHg
                      have X := Lib.hid (qd_set D Gn Hn hne G H hq hr)
                      have D10 := below_set2 D Gn (.bool bq) (.slice Aq nq cq)
                      have D11 := below_set2 D10 Hn (.bool br') (.slice Ar nr cr)
                      have H1 := H.far2 (hne).symm (.bool bq) (.slice Aq nq cq)
                      have g0 := G.at_ 0 rfl; have g1 := G.at_ 1 rfl; have f0 := G.frozen 0; have f1 := G.frozen 1; have h0 := H1.at_ 0 rfl; have h1 := H1.at_ 1 rfl; have f2 := H1.frozen 0; have f3 := H1.frozen 1
                      have D10 := Lib.hid D10; have D11 := Lib.hid D11
                      clear G H H1 D hq hr hp
                      (refine wpAnyL_one (i := 10) (o := _) (by kernel_rfl) rfl (fun K hK => ?_); clear hHeld; simp only [List.getElem_toArray, List.getElem_cons_zero, List.getElem_cons_succ]; go_simp; refine hK.out _ _ ?_ (fun hHeld => ?_); focus (intro _; exact KQ.out _ D10.out)); have hHeld := hHeld (by decide); clear hK K; (try simp only [Act.put, List.setIfInBounds_toArray, List.set_cons_zero, List.set_cons_succ])
                      (refine wpAnyL_one (i := 11) (o := _) (by kernel_rfl) rfl (fun K hK => ?_); clear hHeld; simp only [List.getElem_toArray, List.getElem_cons_zero, List.getElem_cons_succ]; go_simp; refine hK.out _ _ ?_ (fun hHeld => ?_); focus (intro _; exact KQ.out _ D11.out)); have hHeld := hHeld (by decide); clear hK K; (try simp only [Act.put, List.setIfInBounds_toArray, List.set_cons_zero, List.set_cons_succ])
                      refine wpAnyL_done (by kernel_rfl) ?_ _
                      go_wp2
                      go_meet
                      exact X.out
                  · as_aux_lemma =>
                      (clear hHeld; simp only [List.getElem_toArray, List.getElem_cons_zero, List.getElem_cons_succ]; go_simp; refine hK.out _ _ ?_ (fun hHeld => ?_); focus (intro _; exact KQ.out _ (D.alloc D.size _))); have hHeld := hHeld (by decide); clear hK K; (try simp only [Act.put, List.setIfInBounds_toArray, List.set_cons_zero, List.set_cons_succ])
                      have H' := Blk.new w4 34 #[.bool false, .slice none 0 0]
                      have Hn : we.heap.size ≤ w4.heap.size := D.size
                      have hq := (hq.alloc (.cells #[.bool false, .slice none 0 0] 34))
                      have hr := (hr.alloc (.cells #[.bool false, .slice none 0 0] 34))
                      have D1 : Below we.heap.size we (w4.alloc (.cells #[.bool false, .slice none 0 0] 34)) := D.alloc D.size (.cells #[.bool false, .slice none 0 0] 34)
                      clear D
                      have D := D1
                      clear D1
                      obtain ⟨w9, hw9⟩ : ∃ w9, w4.alloc (.cells #[.bool false, .slice none 0 0] 34) = w9 := ⟨_, rfl⟩
                      obtain ⟨Hg, hHg⟩ : ∃ Hg, w4.heap.size = Hg := ⟨_, rfl⟩
                      rw [hw9] at H' D hq hr hHeld ⊢
                      rw [hHg] at H' Hn ⊢
                      have H := H'
                      clear H' hw9 hHg
                      (refine wpAnyL_one (i := 8) (o := _) (by kernel_rfl) rfl (fun K hK => ?_); clear hHeld; simp only [List.getElem_toArray, List.getElem_cons_zero, List.getElem_cons_succ]; go_simp; refine hK.out _ _ ?_ (fun hHeld => ?_); focus (intro _; exact KQ.out _ (D.alloc D.size _))); have hHeld := hHeld (by decide); clear hK K; (try simp only [Act.put, List.setIfInBounds_toArray, List.set_cons_zero, List.set_cons_succ])
                      have G' := Blk.new w9 34 #[.bool false, .slice none 0 0]
                      have Gn : we.heap.size ≤ w9.heap.size := D.size
                      have hne : Hg ≠ w9.heap.size := Nat.ne_of_lt H.lt
                      have H := H.alloc (.cells #[.bool false, .slice none 0 0] 34)
                      have hq := (hq.alloc (.cells #[.bool false, .slice none 0 0] 34))
                      have hr := (hr.alloc (.cells #[.bool false, .slice none 0 0] 34))
                      have D1 : Below we.heap.size we (w9.alloc (.cells #[.bool false, .slice none 0 0] 34)) := D.alloc D.size (.cells #[.bool false, .slice none 0 0] 34)
                      clear D
                      have D := D1
                      clear D1
                      obtain ⟨w8, hw8⟩ : ∃ w8, w9.alloc (.cells #[.bool false, .slice none 0 0] 34) = w8 := ⟨_, rfl⟩
                      obtain ⟨Gg, hGg⟩ : ∃ Gg, w9.heap.size = Gg := ⟨_, rfl⟩
                      rw [hw8] at G' D H hq hr hHeld ⊢
                      rw [hGg] at G' Gn hne ⊢
                      have G := G'
                      clear G' hw8 hGg
                      have X := Lib.hid (qd_set D Gn Hn hne.symm G H hq hr)
                      have D10 := below_set2 D Gn (.bool bq) (.slice Aq nq cq)
                      have D11 := below_set2 D10 Hn (.bool br') (.slice Ar nr cr)
                      have H1 := H.far2 (hne.symm).symm (.bool bq) (.slice Aq nq cq)
                      have g0 := G.at_ 0 rfl; have g1 := G.at_ 1 rfl; have f0 := G.frozen 0; have f1 := G.frozen 1; have h0 := H1.at_ 0 rfl; have h1 := H1.at_ 1 rfl; have f2 := H1.frozen 0; have f3 := H1.frozen 1
                      have D10 := Lib.hid D10; have D11 := Lib.hid D11
                      clear G H H1 D hq hr hp
                      (refine wpAnyL_one (i := 10) (o := _) (by kernel_rfl) rfl (fun K hK => ?_); clear hHeld; simp only [List.getElem_toArray, List.getElem_cons_zero, List.getElem_cons_succ]; go_simp; refine hK.out _ _ ?_ (fun hHeld => ?_); focus (intro _; exact KQ.out _ D10.out)); have hHeld := hHeld (by decide); clear hK K; (try simp only [Act.put, List.setIfInBounds_toArray, List.set_cons_zero, List.set_cons_succ])
                      (refine wpAnyL_one (i := 11) (o := _) (by kernel_rfl) rfl (fun K hK => ?_); clear hHeld; simp only [List.getElem_toArray, List.getElem_cons_zero, List.getElem_cons_succ]; go_simp; refine hK.out _ _ ?_ (fun hHeld => ?_); focus (intro _; exact KQ.out _ D11.out)); have hHeld := hHeld (by decide); clear hK K; (try simp only [Act.put, List.setIfInBounds_toArray, List.set_cons_zero, List.set_cons_succ])
                      refine wpAnyL_done (by kernel_rfl) ?_ _
                      go_wp2
                      go_meet
                      exact X.out
              · as_aux_lemma =>
                  (clear hHeld; simp only [List.getElem_toArray, List.getElem_cons_zero, List.getElem_cons_succ]; go_simp; refine hK.out _ _ ?_ (fun hHeld => ?_); focus (intro _; exact KQ.out _ (D.alloc D.size _))); have hHeld := hHeld (by decide); clear hK K; (try simp only [Act.put, List.setIfInBounds_toArray, List.set_cons_zero, List.set_cons_succ])
                  have G' := Blk.new w3 34 #[.bool false, .slice none 0 0]
                  have Gn : we.heap.size ≤ w3.heap.size := D.size
                  have hp := (hp.alloc (.cells #[.bool false, .slice none 0 0] 34))
                  have D1 : Below we.heap.size we (w3.alloc (.cells #[.bool false, .slice none 0 0] 34)) := D.alloc D.size (.cells #[.bool false, .slice none 0 0] 34)
                  clear D
                  have D := D1
                  clear D1
                  obtain ⟨w8, hw8⟩ : ∃ w8, w3.alloc (.cells #[.bool false, .slice none 0 0] 34) = w8 := ⟨_, rfl⟩
                  obtain ⟨Gg, hGg⟩ : ∃ Gg, w3.heap.size = Gg := ⟨_, rfl⟩
                  rw [hw8] at G' D hp hHeld ⊢
                  rw [hGg] at G' Gn ⊢
                  have G := G'
                  clear G' hw8 hGg
                  refine wpAnyL_two (i := 4) (j := 9) (oi := _) (oj := _) (by kernel_rfl) rfl rfl (fun K hK => ?_) (fun K hK => ?_)
                  · as_aux_lemma =>
                      (clear hHeld; simp only [List.getElem_toArray, List.getElem_cons_zero, List.getElem_cons_succ]; go_simp; (go_at_call 24; (with_reducible refine (DZ.out _ _ _ (VQ.out _ D).1 hp.v).mono ?_); rintro e w4 ⟨_, _, rfl, ⟨bq, Aq, nq, cq, rfl, hq⟩, ⟨br', Ar, nr, cr, rfl, hr⟩, hb⟩; have D := D.trans (hb.mono D.size); have G := G.below hb G.lt); refine hK.out _ _ ?_ (fun hHeld => ?_); focus (intro _; exact KQ.out _ D)); have hHeld := hHeld (by decide); clear hK K; (try simp only [Act.put, List.setIfInBounds_toArray, List.set_cons_zero, List.set_cons_succ])
                      (refine wpAnyL_take (i := 5) (oi := _) (v := ?_) rfl (by kernel_rfl) (by kernel_rfl) (by kernel_rfl) (fun _ _ _ h => h) (Or.inl ⟨by first | rfl | kernel_rfl, ?hy108⟩) (by assumption) ?rs108; (case hy108 => (intro w hSw; (try dsimp only at hSw); go_simp; first | done | with_reducible rfl)); case' rs108 => (simp only [List.getElem_toArray, List.getElem_cons_zero, List.getElem_cons_succ, Act.put, List.setIfInBounds_toArray, List.set_cons_zero, List.set_cons_succ])); (refine wpAnyL_take (i := 6) (oi := _) (v := ?_) rfl (by kernel_rfl) (by kernel_rfl) (by kernel_rfl) (fun _ _ _ h => h) (Or.inl ⟨by first | rfl | kernel_rfl, ?hy109⟩) (by assumption) ?rs109; (case hy109 => (intro w hSw; (try dsimp only at hSw); go_simp; first | done | with_reducible rfl)); case' rs109 => (simp only [List.getElem_toArray, List.getElem_cons_zero, List.getElem_cons_succ, Act.put, List.setIfInBounds_toArray, List.set_cons_zero, List.set_cons_succ])); (refine wpAnyL_take (i := 7) (oi := _) (v := ?_) rfl (by kernel_rfl) (by kernel_rfl) (by kernel_rfl) (fun _ _ _ h => h) (Or.inl ⟨by first | rfl | kernel_rfl, ?hy110⟩) (by assumption) ?rs110; (case hy110 => (intro w hSw; (try dsimp only at hSw); go_simp; first | done | with_reducible rfl)); case' rs110 => (simp only [List.getElem_toArray, List.getElem_cons_zero, List.getElem_cons_succ, Act.put, List.setIfInBounds_toArray, List.set_cons_zero, List.set_cons_succ])); skip
                      (refine wpAnyL_one (i := 9) (o := _) (by kernel_rfl) rfl (fun K hK => ?_); clear hHeld; simp only [List.getElem_toArray, List.getElem_cons_zero, List.getElem_cons_succ]; go_simp; refine hK.out _ _ ?_ (fun hHeld => ?_); focus (intro _; exact KQ.out _ (D.alloc D.size _))); have hHeld := hHeld (by decide); clear hK K; (try simp only [Act.put, List.setIfInBounds_toArray, List.set_cons_zero, List.set_cons_succ])
                      have H' := Blk.new w4 34 #[.bool false, .slice none 0 0]
                      have Hn : we.heap.size ≤ w4.heap.size := D.size
                      have hne : Gg ≠ w4.heap.size := Nat.ne_of_lt G.lt
                      have G := G.alloc (.cells #[.bool false, .slice none 0 0] 34)
                      have hq := (hq.alloc (.cells #[.bool false, .slice none 0 0] 34))
                      have hr := (hr.alloc (.cells #[.bool false, .slice none 0 0] 34))
                      have D1 : Below we.heap.size we (w4.alloc (.cells #[.bool false, .slice none 0 0] 34)) := D.alloc D.size (.cells #[.bool false, .slice none 0 0] 34)
                      clear D
                      have D := D1
                      clear D1
                      obtain ⟨w9, hw9⟩ : ∃ w9, w4.alloc (.cells #[.bool false, .slice none 0 0] 34) = w9 := ⟨_, rfl⟩
                      obtain ⟨Hg, hHg⟩ : ∃ Hg, w4.heap.size = Hg := ⟨_, rfl⟩
                      rw [hw9] at H' D G hq hr hHeld ⊢
                      rw [hHg] at H' Hn hne ⊢
                      have H := H'
                      clear H' hw9 hHg
                      have X := Lib.hid (qd_set D Gn Hn hne G H hq hr)
                      have D10 := below_set2 D Gn (.bool bq) (.slice Aq nq cq)
                      have D11 := below_set2 D10 Hn (.bool br') (.slice Ar nr cr)
                      have H1 := H.far2 (hne).symm (.bool bq) (.slice Aq nq cq)
                      have g0 := G.at_ 0 rfl; have g1 := G.at_ 1 rfl; have f0 := G.frozen 0; have f1 := G.frozen 1; have h0 := H1.at_ 0 rfl; have h1 := H1.at_ 1 rfl; have f2 := H1.frozen 0; have f3 := H1.frozen 1
                      have D10 := Lib.hid D10; have D11 := Lib.hid D11
                      clear G H H1 D hq hr hp
                      (refine wpAnyL_one (i := 10) (o := _) (by kernel_rfl) rfl (fun K hK => ?_); clear hHeld; simp only [List.getElem_toArray, List.getElem_cons_zero, List.getElem_cons_succ]; go_simp; refine hK.out _ _ ?_ (fun hHeld => ?_); focus (intro _; exact KQ.out _ D10.out)); have hHeld := hHeld (by decide); clear hK K; (try simp only [Act.put, List.setIfInBounds_toArray, List.set_cons_zero, List.set_cons_succ])
                      (refine wpAnyL_one (i := 11) (o := _) (by kernel_rfl) rfl (fun K hK => ?_); clear hHeld; simp only [List.getElem_toArray, List.getElem_cons_zero, List.getElem_cons_succ]; go_simp; refine hK.out _ _ ?_ (fun hHeld => ?_); focus (intro _; exact KQ.out _ D11.out)); have hHeld := hHeld (by decide); clear hK K; (try simp only [Act.put, List.setIfInBounds_toArray, List.set_cons_zero, List.set_cons_succ])
                      refine wpAnyL_done (by kernel_rfl) ?_ _
                      go_wp2
                      go_meet
                      exact X.out
                  · as_aux_lemma =>
                      (clear hHeld; simp only [List.getElem_toArray, List.getElem_cons_zero, List.getElem_cons_succ]; go_simp; refine hK.out _ _ ?_ (fun hHeld => ?_); focus (intro _; exact KQ.out _ (D.alloc D.size _))); have hHeld := hHeld (by decide); clear hK K; (try simp only [Act.put, List.setIfInBounds_toArray, List.set_cons_zero, List.set_cons_succ])
                      have H' := Blk.new w8 34 #[.bool false, .slice none 0 0]
                      have Hn : we.heap.size ≤ w8.heap.size := D.size
                      have hne : Gg ≠ w8.heap.size := Nat.ne_of_lt G.lt
                      have G := G.alloc (.cells #[.bool false, .slice none 0 0] 34)
                      have hp := (hp.alloc (.cells #[.bool false, .slice none 0 0] 34))
                      have D1 : Below we.heap.size we (w8.alloc (.cells #[.bool false, .slice none 0 0] 34)) := D.alloc D.size (.cells #[.bool false, .slice none 0 0] 34)
                      clear D
                      have D := D1
                      clear D1
                      obtain ⟨w9, hw9⟩ : ∃ w9, w8.alloc (.cells #[.bool false, .slice none 0 0] 34) = w9 := ⟨_, rfl⟩
                      obtain ⟨Hg, hHg⟩ : ∃ Hg, w8.heap.size = Hg := ⟨_, rfl⟩
                      rw [hw9] at H' D G hp hHeld ⊢
                      rw [hHg] at H' Hn hne ⊢
                      have H := H'
                      clear H' hw9 hHg
                      (refine wpAnyL_one (i := 4) (o := _) (by kernel_rfl) rfl (fun K hK => ?_); clear hHeld; simp only [List.getElem_toArray, List.getElem_cons_zero, List.getElem_cons_succ]; go_simp; (go_at_call 24; (with_reducible refine (DZ.out _ _ _ (VQ.out _ D).1 hp.v).mono ?_); rintro e w4 ⟨_, _, rfl, ⟨bq, Aq, nq, cq, rfl, hq⟩, ⟨br', Ar, nr, cr, rfl, hr⟩, hb⟩; have D := D.trans (hb.mono D.size); have G := G.below hb G.lt; have H := H.below hb H.lt); refine hK.out _ _ ?_ (fun hHeld => ?_); focus (intro _; exact KQ.out _ D)); have hHeld := hHeld (by decide); clear hK K; (try simp only [Act.put, List.setIfInBounds_toArray, List.set_cons_zero, List.set_cons_succ])
                      (refine wpAnyL_take (i := 5) (oi := _) (v := ?_) rfl (by kernel_rfl) (by kernel_rfl) (by kernel_rfl) (fun _ _ _ h => h) (Or.inl ⟨by first | rfl | kernel_rfl, ?hy111⟩) (by assumption) ?rs111; (case hy111 => (intro w hSw; (try dsimp only at hSw); go_simp; first | done | with_reducible rfl)); case' rs111 => (simp only [List.getElem_toArray, List.getElem_cons_zero, List.getElem_cons_succ, Act.put, List.setIfInBounds_toArray, List.set_cons_zero, List.set_cons_succ])); (refine wpAnyL_take (i := 6) (oi := _) (v := ?_) rfl (by kernel_rfl) (by kernel_rfl) (by kernel_rfl) (fun _ _ _ h => h) (Or.inl ⟨by first | rfl | kernel_rfl, ?hy112⟩) (by assumption) ?rs112; (case hy112 => (intro w hSw; (try dsimp only at hSw); go_simp; first | done | with_reducible rfl)); case' rs112 => (simp only [List.getElem_toArray, List.getElem_cons_zero, List.getElem_cons_succ, Act.put, List.setIfInBounds_toArray, List.set_cons_zero, List.set_cons_succ])); (refine wpAnyL_take (i := 7) (oi := _) (v := ?_) rfl (by kernel_rfl) (by kernel_rfl) (by kernel_rfl) (fun _ _ _ h => h) (Or.inl ⟨by first | rfl | kernel_rfl, ?hy113⟩) (by assumption) ?rs113; (case hy113 => (intro w hSw; (try dsimp only at hSw); go_simp; first | done | with_reducible rfl)); case' rs113 => (simp only [List.getElem_toArray, List.getElem_cons_zero, List.getElem_cons_succ, Act.put, List.setIfInBounds_toArray, List.set_cons_zero, List.set_cons_succ])); skip
                      have X := Lib.hid (qd_set D Gn Hn hne G H hq hr)
                      have D10 := below_set2 D Gn (.bool bq) (.slice Aq nq cq)
                      have D11 := below_set2 D10 Hn (.bool br') (.slice Ar nr cr)
                      have H1 := H.far2 (hne).symm (.bool bq) (.slice Aq nq cq)
                      have g0 := G.at_ 0 rfl; have g1 := G.at_ 1 rfl; have f0 := G.frozen 0; have f1 := G.frozen 1; have h0 := H1.at_ 0 rfl; have h1 := H1.at_ 1 rfl; have f2 := H1.frozen 0; have f3 := H1.frozen 1
                      have D10 := Lib.hid D10; have D11 := Lib.hid D11
                      clear G H H1 D hq hr hp
                      (refine wpAnyL_one (i := 10) (o := _) (by kernel_rfl) rfl (fun K hK => ?_); clear hHeld; simp only [List.getElem_toArray, List.getElem_cons_zero, List.getElem_cons_succ]; go_simp; refine hK.out _ _ ?_ (fun hHeld => ?_); focus (intro _; exact KQ.out _ D10.out)); have hHeld := hHeld (by decide); clear hK K; (try simp only [Act.put, List.setIfInBounds_toArray, List.set_cons_zero, List.set_cons_succ])
                      (refine wpAnyL_one (i := 11) (o := _) (by kernel_rfl) rfl (fun K hK => ?_); clear hHeld; simp only [List.getElem_toArray, List.getElem_cons_zero, List.getElem_cons_succ]; go_simp; refine hK.out _ _ ?_ (fun hHeld => ?_); focus (intro _; exact KQ.out _ D11.out)); have hHeld := hHeld (by decide); clear hK K; (try simp only [Act.put, List.setIfInBounds_toArray, List.set_cons_zero, List.set_cons_succ])
                      refine wpAnyL_done (by kernel_rfl) ?_ _
                      go_wp2
                      go_meet
                      exact X.out
              · as_aux_lemma =>
                  (clear hHeld; simp only [List.getElem_toArray, List.getElem_cons_zero, List.getElem_cons_succ]; go_simp; refine hK.out _ _ ?_ (fun hHeld => ?_); focus (intro _; exact KQ.out _ (D.alloc D.size _))); have hHeld := hHeld (by decide); clear hK K; (try simp only [Act.put, List.setIfInBounds_toArray, List.set_cons_zero, List.set_cons_succ])
                  have H' := Blk.new w3 34 #[.bool false, .slice none 0 0]
                  have Hn : we.heap.size ≤ w3.heap.size := D.size
                  have hp := (hp.alloc (.cells #[.bool false, .slice none 0 0] 34))
                  have D1 : Below we.heap.size we (w3.alloc (.cells #[.bool false, .slice none 0 0] 34)) := D.alloc D.size (.cells #[.bool false, .slice none 0 0] 34)
                  clear D
                  have D := D1
                  clear D1
                  obtain ⟨w9, hw9⟩ : ∃ w9, w3.alloc (.cells #[.bool false, .slice none 0 0] 34) = w9 := ⟨_, rfl⟩
                  obtain ⟨Hg, hHg⟩ : ∃ Hg, w3.heap.size = Hg := ⟨_, rfl⟩
                  rw [hw9] at H' D hp hHeld ⊢
                  rw [hHg] at H' Hn ⊢
                  have H := H'
                  clear H' hw9 hHg
                  refine wpAnyL_two (i := 4) (j := 8) (oi := _) (oj := _) (by kernel_rfl) rfl rfl (fun K hK => ?_) (fun K hK => ?_)
                  · as_aux_lemma =>
                      (clear hHeld; simp only [List.getElem_toArray, List.getElem_cons_zero, List.getElem_cons_succ]; go_simp; (go_at_call 24; (with_reducible refine (DZ.out _ _ _ (VQ.out _ D).1 hp.v).mono ?_); rintro e w4 ⟨_, _, rfl, ⟨bq, Aq, nq, cq, rfl, hq⟩, ⟨br', Ar, nr, cr, rfl, hr⟩, hb⟩; have D := D.trans (hb.mono D.size); have H := H.below hb H.lt); refine hK.out _ _ ?_ (fun hHeld => ?_); focus (intro _; exact KQ.out _ D)); have hHeld := hHeld (by decide); clear hK K; (try simp only [Act.put, List.setIfInBounds_toArray, List.set_cons_zero, List.set_cons_succ])
                      (refine wpAnyL_take (i := 5) (oi := _) (v := ?_) rfl (by kernel_rfl) (by kernel_rfl) (by kernel_rfl) (fun _ _ _ h => h) (Or.inl ⟨by first | rfl | kernel_rfl, ?hy114⟩) (by assumption) ?rs114; (case hy114 => (intro w hSw; (try dsimp only at hSw); go_simp; first | done | with_reducible rfl)); case' rs114 => (simp only [List.getElem_toArray, List.getElem_cons_zero, List.getElem_cons_succ, Act.put, List.setIfInBounds_toArray, List.set_cons_zero, List.set_cons_succ])); (refine wpAnyL_take (i := 6) (oi := _) (v := ?_) rfl (by kernel_rfl) (by kernel_rfl) (by kernel_rfl) (fun _ _ _ h => h) (Or.inl ⟨by first | rfl | kernel_rfl, ?hy115⟩) (by assumption) ?rs115; (case hy115 => (intro w hSw; (try dsimp only at hSw); go_simp; first | done | with_reducible rfl)); case' rs115 => (simp only [List.getElem_toArray, List.getElem_cons_zero, List.getElem_cons_succ, Act.put, List.setIfInBounds_toArray, List.set_cons_zero, List.set_cons_succ])); (refine wpAnyL_take (i := 7) (oi := _) (v := ?_) rfl (by kernel_rfl) (by kernel_rfl) (by kernel_rfl) (fun _ _ _ h => h) (Or.inl ⟨by first | rfl | kernel_rfl, ?hy116⟩) (by assumption) ?rs116; (case hy116 => (intro w hSw; (try dsimp only at hSw); go_simp; first | done | with_reducible rfl)); case' rs116 => (simp only [List.getElem_toArray, List.getElem_cons_zero, List.getElem_cons_succ, Act.put, List.setIfInBounds_toArray, List.set_cons_zero, List.set_cons_succ])); skip
                      (refine wpAnyL_one (i := 8) (o := _) (by kernel_rfl) rfl (fun K hK => ?_); clear hHeld; simp only [List.getElem_toArray, List.getElem_cons_zero, List.getElem_cons_succ]; go_simp; refine hK.out _ _ ?_ (fun hHeld => ?_); focus (intro _; exact KQ.out _ (D.alloc D.size _))); have hHeld := hHeld (by decide); clear hK K; (try simp only [Act.put, List.setIfInBounds_toArray, List.set_cons_zero, List.set_cons_succ])
                      have G' := Blk.new w4 34 #[.bool false, .slice none 0 0]
                      have Gn : we.heap.size ≤ w4.heap.size := D.size
                      have hne : Hg ≠ w4.heap.size := Nat.ne_of_lt H.lt
                      have H := H.alloc (.cells #[.bool false, .slice none 0 0] 34)
                      have hq := (hq.alloc (.cells #[.bool false, .slice none 0 0] 34))
                      have hr := (hr.alloc (.cells #[.bool false, .slice none 0 0] 34))
                      have D1 : Below we.heap.size we (w4.alloc (.cells #[.bool false, .slice none 0 0] 34)) := D.alloc D.size (.cells #[.bool false, .slice none 0 0] 34)
                      clear D
                      have D := D1
                      clear D1
                      obtain ⟨w8, hw8⟩ : ∃ w8, w4.alloc (.cells #[.bool false, .slice none 0 0] 34) = w8 := ⟨_, rfl⟩
                      obtain ⟨Gg, hGg⟩ : ∃ Gg, w4.heap.size = Gg := ⟨_, rfl⟩
                      rw [hw8] at G' D H hq hr hHeld ⊢
                      rw [hGg] at G' Gn hne ⊢
                      have G := G'
                      clear G' hw8 hGg
                      have X := Lib.hid (qd_set D Gn Hn hne.symm G H hq hr)
                      have D10 := below_set2 D Gn (.bool bq) (.slice Aq nq cq)
                      have D11 := below_set2 D10 Hn (.bool br') (.slice Ar nr cr)
                      have H1 := H.far2 (hne.symm).symm (.bool bq) (.slice Aq nq cq)
                      have g0 := G.at_ 0 rfl; have g1 := G.at_ 1 rfl; have f0 := G.frozen 0; have f1 := G.frozen 1; have h0 := H1.at_ 0 rfl; have h1 := H1.at_ 1 rfl; have f2 := H1.frozen 0; have f3 := H1.frozen 1
                      have D10 := Lib.hid D10; have D11 := Lib.hid D11
                      clear G H H1 D hq hr hp
                      (refine wpAnyL_one (i := 10) (o := _) (by kernel_rfl) rfl (fun K hK => ?_); clear hHeld; simp only [List.getElem_toArray, List.getElem_cons_zero, List.getElem_cons_succ]; go_simp; refine hK.out _ _ ?_ (fun hHeld => ?_); focus (intro _; exact KQ.out _ D10.out)); have hHeld := hHeld (by decide); clear hK K; (try simp only [Act.put, List.setIfInBounds_toArray, List.set_cons_zero, List.set_cons_succ])
                      (refine wpAnyL_one (i := 11) (o := _) (by kernel_rfl) rfl (fun K hK => ?_); clear hHeld; simp only [List.getElem_toArray, List.getElem_cons_zero, List.getElem_cons_succ]; go_simp; refine hK.out _ _ ?_ (fun hHeld => ?_); focus (intro _; exact KQ.out _ D11.out)); have hHeld := hHeld (by decide); clear hK K; (try simp only [Act.put, List.setIfInBounds_toArray, List.set_cons_zero, List.set_cons_succ])
                      refine wpAnyL_done (by kernel_rfl) ?_ _
                      go_wp2
                      go_meet
                      exact X.out
                  · as_aux_lemma =>
                      (clear hHeld; simp only [List.getElem_toArray, List.getElem_cons_zero, List.getElem_cons_succ]; go_simp; refine hK.out _ _ ?_ (fun hHeld => ?_); focus (intro _; exact KQ.out _ (D.alloc D.size _))); have hHeld := hHeld (by decide); clear hK K; (try simp only [Act.put, List.setIfInBounds_toArray, List.set_cons_zero, List.set_cons_succ])
                      have G' := Blk.new w9 34 #[.bool false, .slice none 0 0]
                      have Gn : we.heap.size ≤ w9.heap.size := D.size
                      have hne : Hg ≠ w9.heap.size := Nat.ne_of_lt H.lt
                      have H := H.alloc (.cells #[.bool false, .slice none 0 0] 34)
                      have hp := (hp.alloc (.cells #[.bool false, .slice none 0 0] 34))
                      have D1 : Below we.heap.size we (w9.alloc (.cells #[.bool false, .slice none 0 0] 34)) := D.alloc D.size (.cells #[.bool false, .slice none 0 0] 34)
                      clear D
                      have D := D1
                      clear D1
                      obtain ⟨w8, hw8⟩ : ∃ w8, w9.alloc (.cells #[.bool false, .slice none 0 0] 34) = w8 := ⟨_, rfl⟩
                      obtain ⟨Gg, hGg⟩ : ∃ Gg, w9.heap.size = Gg := ⟨_, rfl⟩
                      rw [hw8] at G' D H hp hHeld ⊢
                      rw [hGg] at G' Gn hne ⊢
                      have G := G'
                      clear G' hw8 hGg
                      (refine wpAnyL_one (i := 4) (o := _) (by kernel_rfl) rfl (fun K hK => ?_); clear hHeld; simp only [List.getElem_toArray, List.getElem_cons_zero, List.getElem_cons_succ]; go_simp; (go_at_call 24; (with_reducible refine (DZ.out _ _ _ (VQ.out _ D).1 hp.v).mono ?_); rintro e w4 ⟨_, _, rfl, ⟨bq, Aq, nq, cq, rfl, hq⟩, ⟨br', Ar, nr, cr, rfl, hr⟩, hb⟩; have D := D.trans (hb.mono D.size); have G := G.below hb G.lt; have H := H.below hb H.lt); refine hK.out _ _ ?_ (fun hHeld => ?_); focus (intro _; exact KQ.out _ D)); have hHeld := hHeld (by decide); clear hK K; (try simp only [Act.put, List.setIfInBounds_toArray, List.set_cons_zero, List.set_cons_succ])
                      (refine wpAnyL_take (i := 5) (oi := _) (v := ?_) rfl (by kernel_rfl) (by kernel_rfl) (by kernel_rfl) (fun _ _ _ h => h) (Or.inl ⟨by first | rfl | kernel_rfl, ?hy117⟩) (by assumption) ?rs117; (case hy117 => (intro w hSw; (try dsimp only at hSw); go_simp; first | done | with_reducible rfl)); case' rs117 => (simp only [List.getElem_toArray, List.getElem_cons_zero, List.getElem_cons_succ, Act.put, List.setIfInBounds_toArray, List.set_cons_zero, List.set_cons_succ])); (refine wpAnyL_take (i := 6) (oi := _) (v := ?_) rfl (by kernel_rfl) (by kernel_rfl) (by kernel_rfl) (fun _ _ _ h => h) (Or.inl ⟨by first | rfl | kernel_rfl, ?hy118⟩) (by assumption) ?rs118; (case hy118 => (intro w hSw; (try dsimp only at hSw); go_simp; first | done | with_reducible rfl)); case' rs118 => (simp only [List.getElem_toArray, List.getElem_cons_zero, List.getElem_cons_succ, Act.put, List.setIfInBounds_toArray, List.set_cons_zero, List.set_cons_succ])); (refine wpAnyL_take (i := 7) (oi := _) (v := ?_) rfl (by kernel_rfl) (by kernel_rfl) (by kernel_rfl) (fun _ _ _ h => h) (Or.inl ⟨by first | rfl | kernel_rfl, ?hy119⟩) (by assumption) ?rs119; (case hy119 => (intro w hSw; (try dsimp only at hSw); go_simp; first | done | with_reducible rfl)); case' rs119 => (simp only [List.getElem_toArray, List.getElem_cons_zero, List.getElem_cons_succ, Act.put, List.setIfInBounds_toArray, List.set_cons_zero, List.set_cons_succ])); skip
                      have X := Lib.hid (qd_set D Gn Hn hne.symm G H hq hr)
                      have D10 := below_set2 D Gn (.bool bq) (.slice Aq nq cq)
                      have D11 := below_set2 D10 Hn (.bool br') (.slice Ar nr cr)
                      have H1 := H.far2 (hne.symm).symm (.bool bq) (.slice Aq nq cq)
                      have g0 := G.at_ 0 rfl; have g1 := G.at_ 1 rfl; have f0 := G.frozen 0; have f1 := G.frozen 1; have h0 := H1.at_ 0 rfl; have h1 := H1.at_ 1 rfl; have f2 := H1.frozen 0; have f3 := H1.frozen 1
                      have D10 := Lib.hid D10; have D11 := Lib.hid D11
                      clear G H H1 D hq hr hp
                      (refine wpAnyL_one (i := 10) (o := _) (by kernel_rfl) rfl (fun K hK => ?_); clear hHeld; simp only [List.getElem_toArray, List.getElem_cons_zero, List.getElem_cons_succ]; go_simp; refine hK.out _ _ ?_ (fun hHeld => ?_); focus (intro _; exact KQ.out _ D10.out)); have hHeld := hHeld (by decide); clear hK K; (try simp only [Act.put, List.setIfInBounds_toArray, List.set_cons_zero, List.set_cons_succ])
                      (refine wpAnyL_one (i := 11) (o := _) (by kernel_rfl) rfl (fun K hK => ?_); clear hHeld; simp only [List.getElem_toArray, List.getElem_cons_zero, List.getElem_cons_succ]; go_simp; refine hK.out _ _ ?_ (fun hHeld => ?_); focus (intro _; exact KQ.out _ D11.out)); have hHeld := hHeld (by decide); clear hK K; (try simp only [Act.put, List.setIfInBounds_toArray, List.set_cons_zero, List.set_cons_succ])
                      refine wpAnyL_done (by kernel_rfl) ?_ _
                      go_wp2
                      go_meet
                      exact X.out
          · as_aux_lemma =>
              (clear hHeld; simp only [List.getElem_toArray, List.getElem_cons_zero, List.getElem_cons_succ]; go_simp; refine hK.out _ _ ?_ (fun hHeld => ?_); focus (intro _; exact KQ.out _ (D.alloc D.size _))); have hHeld := hHeld (by decide); clear hK K; (try simp only [Act.put, List.setIfInBounds_toArray, List.set_cons_zero, List.set_cons_succ])
              have G' := Blk.drew (Blk.new wc 34 #[.bool false, .slice none 0 0])
              have Gn : we.heap.size ≤ wc.heap.size := D.size
              have D1 : Below we.heap.size we ((wc.alloc (.cells #[.bool false, .slice none 0 0] 34)).drew) := (D.alloc D.size (.cells #[.bool false, .slice none 0 0] 34))
              clear D
              have D := D1
              clear D1
              obtain ⟨w8, hw8⟩ : ∃ w8, (wc.alloc (.cells #[.bool false, .slice none 0 0] 34)).drew = w8 := ⟨_, rfl⟩
              obtain ⟨Gg, hGg⟩ : ∃ Gg, wc.heap.size = Gg := ⟨_, rfl⟩
              rw [hw8] at G' D hHeld ⊢
              rw [hGg] at G' Gn ⊢
              have G := G'
              clear G' hw8 hGg
              refine wpAnyL_two (i := 3) (j := 9) (oi := _) (oj := _) (by kernel_rfl) rfl rfl (fun K hK => ?_) (fun K hK => ?_)
              · as_aux_lemma =>
                  (clear hHeld; simp only [List.getElem_toArray, List.getElem_cons_zero, List.getElem_cons_succ]; go_simp; (go_at_call 17; (with_reducible refine (HP.out _).mono ?_); rintro e w3 ⟨_, rfl, ⟨b1, A1, n1, c1, rfl, hp0⟩, hb⟩; have hp := hp0.zl; have D := D.trans (hb.mono D.size); have G := G.below hb G.lt); refine hK.out _ _ ?_ (fun hHeld => ?_); focus (intro _; exact KQ.out _ D)); have hHeld := hHeld (by decide); clear hK K; (try simp only [Act.put, List.setIfInBounds_toArray, List.set_cons_zero, List.set_cons_succ])
                  refine wpAnyL_two (i := 4) (j := 9) (oi := _) (oj := _) (by kernel_rfl) rfl rfl (fun K hK => ?_) (fun K hK => ?_)
                  · as_aux_lemma =>
                      (clear hHeld; simp only [List.getElem_toArray, List.getElem_cons_zero, List.getElem_cons_succ]; go_simp; (go_at_call 24; (with_reducible refine (DZ.out _ _ _ (VQ.out _ D).1 hp.v).mono ?_); rintro e w4 ⟨_, _, rfl, ⟨bq, Aq, nq, cq, rfl, hq⟩, ⟨br', Ar, nr, cr, rfl, hr⟩, hb⟩; have D := D.trans (hb.mono D.size); have G := G.below hb G.lt); refine hK.out _ _ ?_ (fun hHeld => ?_); focus (intro _; exact KQ.out _ D)); have hHeld := hHeld (by decide); clear hK K; (try simp only [Act.put, List.setIfInBounds_toArray, List.set_cons_zero, List.set_cons_succ])
                      (refine wpAnyL_take (i := 5) (oi := _) (v := ?_) rfl (by kernel_rfl) (by kernel_rfl) (by kernel_rfl) (fun _ _ _ h => h) (Or.inl ⟨by first | rfl | kernel_rfl, ?hy120⟩) (by assumption) ?rs120; (case hy120 => (intro w hSw; (try dsimp only at hSw); go_simp; first | done | with_reducible rfl)); case' rs120 => (simp only [List.getElem_toArray, List.getElem_cons_zero, List.getElem_cons_succ, Act.put, List.setIfInBounds_toArray, List.set_cons_zero, List.set_cons_succ])); (refine wpAnyL_take (i := 6) (oi := _) (v := ?_) rfl (by kernel_rfl) (by kernel_rfl) (by kernel_rfl) (fun _ _ _ h => h) (Or.inl ⟨by first | rfl | kernel_rfl, ?hy121⟩) (by assumption) ?rs121; (case hy121 => (intro w hSw; (try dsimp only at hSw); go_simp; first | done | with_reducible rfl)); case' rs121 => (simp only [List.getElem_toArray, List.getElem_cons_zero, List.getElem_cons_succ, Act.put, List.setIfInBounds_toArray, List.set_cons_zero, List.set_cons_succ])); (refine wpAnyL_take (i := 7) (oi := _) (v := ?_) rfl (by kernel_rfl) (by kernel_rfl) (by kernel_rfl) (fun _ _ _ h => h) (Or.inl ⟨by first | rfl | kernel_rfl, ?hy122⟩) (by assumption) ?rs122; (case hy122 => (intro w hSw; (try dsimp only at hSw); go_simp; first | done | with_reducible rfl)); case' rs122 => (simp only [List.getElem_toArray, List.getElem_cons_zero, List.getElem_cons_succ, Act.put, List.setIfInBounds_toArray, List.set_cons_zero, List.set_cons_succ])); skip
                      (refine wpAnyL_one (i := 9) (o := _) (by kernel_rfl) rfl (fun K hK => ?_); clear hHeld; simp only [List.getElem_toArray, List.getElem_cons_zero, List.getElem_cons_succ]; go_simp; refine hK.out _ _ ?_ (fun hHeld => ?_); focus (intro _; exact KQ.out _ (D.alloc D.size _))); have hHeld := hHeld (by decide); clear hK K; (try simp only [Act.put, List.setIfInBounds_toArray, List.set_cons_zero, List.set_cons_succ])
                      have H' := Blk.new w4 34 #[.bool false, .slice none 0 0]
                      have Hn : we.heap.size ≤ w4.heap.size := D.size
                      have hne : Gg ≠ w4.heap.size := Nat.ne_of_lt G.lt
                      have G := G.alloc (.cells #[.bool false, .slice none 0 0] 34)
                      have hq := (hq.alloc (.cells #[.bool false, .slice none 0 0] 34))
                      have hr := (hr.alloc (.cells #[.bool false, .slice none 0 0] 34))
                      have D1 : Below we.heap.size we (w4.alloc (.cells #[.bool false, .slice none 0 0] 34)) := D.alloc D.size (.cells #[.bool false, .slice none 0 0] 34)
                      clear D
                      have D := D1
                      clear D1
                      obtain ⟨w9, hw9⟩ : ∃ w9, w4.alloc (.cells #[.bool false, .slice none 0 0] 34) = w9 := ⟨_, rfl⟩
                      obtain ⟨Hg, hHg⟩ : ∃ Hg, w4.heap.size = Hg := ⟨_, rfl⟩
                      rw [hw9] at H' D G hq hr hHeld ⊢
                      rw [hHg] at H' Hn hne ⊢
                      have H := H'
                      clear H' hw9 hHg
                      have X := Lib.hid (qd_set D Gn Hn hne G H hq hr)
                      have D10 := below_set2 D Gn (.bool bq) (.slice Aq nq cq)
                      have D11 := below_set2 D10 Hn (.bool br') (.slice Ar nr cr)
                      have H1 := H.far2 (hne).symm (.bool bq) (.slice Aq nq cq)
                      have g0 := G.at_ 0 rfl; have g1 := G.at_ 1 rfl; have f0 := G.frozen 0; have f1 := G.frozen 1; have h0 := H1.at_ 0 rfl; have h1 := H1.at_ 1 rfl; have f2 := H1.frozen 0; have f3 := H1.frozen 1
                      have D10 := Lib.hid D10; have D11 := Lib.hid D11
                      clear G H H1 D hq hr hp
                      (refine wpAnyL_one (i := 10) (o := _) (by kernel_rfl) rfl (fun K hK => ?_); clear hHeld; simp only [List.getElem_toArray, List.getElem_cons_zero, List.getElem_cons_succ]; go_simp; refine hK.out _ _ ?_ (fun hHeld => ?_); focus (intro _; exact KQ.out _ D10.out)); have hHeld := hHeld (by decide); clear hK K; (try simp only [Act.put, List.setIfInBounds_toArray, List.set_cons_zero, List.set_cons_succ])
                      (refine wpAnyL_one (i := 11) (o := _) (by kernel_rfl) rfl (fun K hK => ?_); clear hHeld; simp only [List.getElem_toArray, List.getElem_cons_zero, List.getElem_cons_succ]; go_simp; refine hK.out _ _ ?_ (fun hHeld => ?_); focus (intro _; exact KQ.out _ D11.out)); have hHeld := hHeld (by decide); clear hK K; (try simp only [Act.put, List.setIfInBounds_toArray, List.set_cons_zero, List.set_cons_succ])
                      refine wpAnyL_done (by kernel_rfl) ?_ _
                      go_wp2
                      go_meet
                      exact X.out
                  · as_aux_lemma =>
                      (clear hHeld; simp only [List.getElem_toArray, List.getElem_cons_zero, List.getElem_cons_succ]; go_simp; refine hK.out _ _ ?_ (fun hHeld => ?_); focus (intro _; exact KQ.out _ (D.alloc D.size _))); have hHeld := hHeld (by decide); clear hK K; (try simp only [Act.put, List.setIfInBounds_toArray, List.set_cons_zero, List.set_cons_succ])
                      have H' := Blk.new w3 34 #[.bool false, .slice none 0 0]
                      have Hn : we.heap.size ≤ w3.heap.size := D.size
                      have hne : Gg ≠ w3.heap.size := Nat.ne_of_lt G.lt
                      have G := G.alloc (.cells #[.bool false, .slice none 0 0] 34)
                      have hp := (hp.alloc (.cells #[.bool false, .slice none 0 0] 34))
                      have D1 : Below we.heap.size we (w3.alloc (.cells #[.bool false, .slice none 0 0] 34)) := D.alloc D.size (.cells #[.bool false, .slice none 0 0] 34)
                      clear D
                      have D := D1
                      clear D1
                      obtain ⟨w9, hw9⟩ : ∃ w9, w3.alloc (.cells #[.bool false, .slice none 0 0] 34) = w9 := ⟨_, rfl⟩
                      obtain ⟨Hg, hHg⟩ : ∃ Hg, w3.heap.size = Hg := ⟨_, rfl⟩
                      rw [hw9] at H' D G hp hHeld ⊢
                      rw [hHg] at H' Hn hne ⊢
                      have H := H'
                      clear H' hw9 hHg
                      (refine wpAnyL_one (i := 4) (o := _) (by kernel_rfl) rfl (fun K hK => ?_); clear hHeld; simp only [List.getElem_toArray, List.getElem_cons_zero, List.getElem_cons_succ]; go_simp; (go_at_call 24; (with_reducible refine (DZ.out _ _ _ (VQ.out _ D).1 hp.v).mono ?_); rintro e w4 ⟨_, _, rfl, ⟨bq, Aq, nq, cq, rfl, hq⟩, ⟨br', Ar, nr, cr, rfl, hr⟩, hb⟩; have D := D.trans (hb.mono D.size); have G := G.below hb G.lt; have H := H.below hb H.lt); refine hK.out _ _ ?_ (fun hHeld => ?_); focus (intro _; exact KQ.out _ D)); have hHeld := hHeld (by decide); clear hK K; (try simp only [Act.put, List.setIfInBounds_toArray, List.set_cons_zero, List.set_cons_succ])
                      (refine wpAnyL_take (i := 5) (oi := _) (v := ?_) rfl (by kernel_rfl) (by kernel_rfl) (by kernel_rfl) (fun _ _ _ h => h) (Or.inl ⟨by first | rfl | kernel_rfl, ?hy123⟩) (by assumption) ?rs123; (case hy123 => (intro w hSw; (try dsimp only at hSw); go_simp; first | done | with_reducible rfl)); case' rs123 => (simp only [List.getElem_toArray, List.getElem_cons_zero, List.getElem_cons_succ, Act.put, List.setIfInBounds_toArray, List.set_cons_zero, List.set_cons_succ])); (refine wpAnyL_take (i := 6) (oi := _) (v := ?_) rfl (by kernel_rfl) (by kernel_rfl) (by kernel_rfl) (fun _ _ _ h => h) (Or.inl ⟨by first | rfl | kernel_rfl, ?hy124⟩) (by assumption) ?rs124; (case hy124 => (intro w hSw; (try dsimp only at hSw); go_simp; first | done | with_reducible rfl)); case' rs124 => (simp only [List.getElem_toArray, List.getElem_cons_zero, List.getElem_cons_succ, Act.put, List.setIfInBounds_toArray, List.set_cons_zero, List.set_cons_succ])); (refine wpAnyL_take (i := 7) (oi := _) (v := ?_) rfl (by kernel_rfl) (by kernel_rfl) (by kernel_rfl) (fun _ _ _ h => h) (Or.inl ⟨by first | rfl | kernel_rfl, ?hy125⟩) (by assumption) ?rs125; (case hy125 => (intro w hSw; (try dsimp only at hSw); go_simp; first | done | with_reducible rfl)); case' rs125 => (simp only [List.getElem_toArray, List.getElem_cons_zero, List.getElem_cons_succ, Act.put, List.setIfInBounds_toArray, List.set_cons_zero, List.set_cons_succ])); skip
                      have X := Lib.hid (qd_set D Gn Hn hne G H hq hr)
                      have D10 := below_set2 D Gn (.bool bq) (.slice Aq nq cq)
                      have D11 := below_set2 D10 Hn (.bool br') (.slice Ar nr cr)
                      have H1 := H.far2 (hne).symm (.bool bq) (.slice Aq nq cq)
                      have g0 := G.at_ 0 rfl; have g1 := G.at_ 1 rfl; have f0 := G.frozen 0; have f1 := G.frozen 1; have h0 := H1.at_ 0 rfl; have h1 := H1.at_ 1 rfl; have f2 := H1.frozen 0; have f3 := H1.frozen 1
                      have D10 := Lib.hid D10; have D11 := Lib.hid D11
                      clear G H H1 D hq hr hp
                      (refine wpAnyL_one (i := 10) (o := _) (by kernel_rfl) rfl (fun K hK => ?_); clear hHeld; simp only [List.getElem_toArray, List.getElem_cons_zero, List.getElem_cons_succ]; go_simp; refine hK.out _ _ ?_ (fun hHeld => ?_); focus (intro _; exact KQ.out _ D10.out)); have hHeld := hHeld (by decide); clear hK K; (try simp only [Act.put, List.setIfInBounds_toArray, List.set_cons_zero, List.set_cons_succ])
                      (refine wpAnyL_one (i := 11) (o := _) (by kernel_rfl) rfl (fun K hK => ?_); clear hHeld; simp only [List.getElem_toArray, List.getElem_cons_zero, List.getElem_cons_succ]; go_simp; refine hK.out _ _ ?_ (fun hHeld => ?_); focus (intro _; exact KQ.out _ D11.out)); have hHeld := hHeld (by decide); clear hK K; (try simp only [Act.put, List.setIfInBounds_toArray, List.set_cons_zero, List.set_cons_succ])
                      refine wpAnyL_done (by kernel_rfl) ?_ _
                      go_wp2
                      go_meet
                      exact X.out
              · as_aux_lemma =>
                  (clear hHeld; simp only [List.getElem_toArray, List.getElem_cons_zero, List.getElem_cons_succ]; go_simp; refine hK.out _ _ ?_ (fun hHeld => ?_); focus (intro _; exact KQ.out _ (D.alloc D.size _))); have hHeld := hHeld (by decide); clear hK K; (try simp only [Act.put, List.setIfInBounds_toArray, List.set_cons_zero, List.set_cons_succ])
                  have H' := Blk.new w8 34 #[.bool false, .slice none 0 0]
                  have Hn : we.heap.size ≤ w8.heap.size := D.size
                  have hne : Gg ≠ w8.heap.size := Nat.ne_of_lt G.lt
                  have G := G.alloc (.cells #[.bool false, .slice none 0 0] 34)
                  have D1 : Below we.heap.size we (w8.alloc (.cells #[.bool false, .slice none 0 0] 34)) := D.alloc D.size (.cells #[.bool false, .slice none 0 0] 34)
                  clear D
                  have D := D1
                  clear D1
                  obtain ⟨w9, hw9⟩ : ∃ w9, w8.alloc (.cells #[.bool false, .slice none 0 0] 34) = w9 := ⟨_, rfl⟩
                  obtain ⟨Hg, hHg⟩ : ∃ Hg, w8.heap.size = Hg := ⟨_, rfl⟩
                  rw [hw9] at H' D G hHeld ⊢
                  rw [hHg] at H' Hn hne ⊢
                  have H := H'
                  clear H' hw9 hHg
                  (refine wpAnyL_one (i := 3) (o := _) (by kernel_rfl) rfl (fun K hK => ?_); clear hHeld; simp only [List.getElem_toArray, List.getElem_cons_zero, List.getElem_cons_succ]; go_simp; (go_at_call 17; (with_reducible refine (HP.out _).mono ?_); rintro e w3 ⟨_, rfl, ⟨b1, A1, n1, c1, rfl, hp0⟩, hb⟩; have hp := hp0.zl; have D := D.trans (hb.mono D.size); have G := G.below hb G.lt; have H := H.below hb H.lt); refine hK.out _ _ ?_ (fun hHeld => ?_); focus (intro _; exact KQ.out _ D)); have hHeld := hHeld (by decide); clear hK K; (try simp only [Act.put, List.setIfInBounds_toArray, List.set_cons_zero, List.set_cons_succ])
                  (refine wpAnyL_one (i := 4) (o := _) (by kernel_rfl) rfl (fun K hK => ?_); clear hHeld; simp only [List.getElem_toArray, List.getElem_cons_zero, List.getElem_cons_succ]; go_simp; (go_at_call 24; (with_reducible refine (DZ.out _ _ _ (VQ.out _ D).1 hp.v).mono ?_); rintro e w4 ⟨_, _, rfl, ⟨bq, Aq, nq, cq, rfl, hq⟩, ⟨br', Ar, nr, cr, rfl, hr⟩, hb⟩; have D := D.trans (hb.mono D.size); have G := G.below hb G.lt; have H := H.below hb H.lt); refine hK.out _ _ ?_ (fun hHeld => ?_); focus (intro _; exact KQ.out _ D)); have hHeld := hHeld (by decide); clear hK K; (try simp only [Act.put, List.setIfInBounds_toArray, List.set_cons_zero, List.set_cons_succ])
                  (refine wpAnyL_take (i := 5) (oi := _) (v := ?_) rfl (by kernel_rfl) (by kernel_rfl) (by kernel_rfl) (fun _ _ _ h => h) (Or.inl ⟨by first | rfl | kernel_rfl, ?hy126⟩) (by assumption) ?rs126; (case hy126 => (intro w hSw; (try dsimp only at hSw); go_simp; first | done | with_reducible rfl)); case' rs126 => (simp only [List.getElem_toArray, List.getElem_cons_zero, List.getElem_cons_succ, Act.put, List.setIfInBounds_toArray, List.set_cons_zero, List.set_cons_succ])); (refine wpAnyL_take (i := 6) (oi := _) (v := ?_) rfl (by kernel_rfl) (by kernel_rfl) (by kernel_rfl) (fun _ _ _ h => h) (Or.inl ⟨by first | rfl | kernel_rfl, ?hy127⟩) (by assumption) ?rs127; (case hy127 => (intro w hSw; (try dsimp only at hSw); go_simp; first | done | with_reducible rfl)); case' rs127 => (simp only [List.getElem_toArray, List.getElem_cons_zero, List.getElem_cons_succ, Act.put, List.setIfInBounds_toArray, List.set_cons_zero, List.set_cons_succ])); (refine wpAnyL_take (i := 7) (oi := _) (v := ?_) rfl (by kernel_rfl) (by kernel_rfl) (by kernel_rfl) (fun _ _ _ h => h) (Or.inl ⟨by first | rfl | kernel_rfl, ?hy128⟩) (by assumption) ?rs128; (case hy128 => (intro w hSw; (try dsimp only at hSw); go_simp; first | done | with_reducible rfl)); case' rs128 => (simp only [List.getElem_toArray, List.getElem_cons_zero, List.getElem_cons_succ, Act.put, List.setIfInBounds_toArray, List.set_cons_zero, List.set_cons_succ])); skip
                  have X := Lib.hid (qd_set D Gn Hn hne G H hq hr)
                  have D10 := below_set2 D Gn (.bool bq) (.slice Aq nq cq)
                  have D11 := below_set2 D10 Hn (.bool br') (.slice Ar nr cr)
                  have H1 := H.far2 (hne).symm (.bool bq) (.slice Aq nq cq)
                  have g0 := G.at_ 0 rfl; have g1 := G.at_ 1 rfl; have f0 := G.frozen 0; have f1 := G.frozen 1; have h0 := H1.at_ 0 rfl; have h1 := H1.at_ 1 rfl; have f2 := H1.frozen 0; have f3 := H1.frozen 1
                  have D10 := Lib.hid D10; have D11 := Lib.hid D11
                  clear G H H1 D hq hr hp
                  (refine wpAnyL_one (i := 10) (o := _) (by kernel_rfl) rfl (fun K hK => ?_); clear hHeld; simp only [List.getElem_toArray, List.getElem_cons_zero, List.getElem_cons_succ]; go_simp; refine hK.out _ _ ?_ (fun hHeld => ?_); focus (intro _; exact KQ.out _ D10.out)); have hHeld := hHeld (by decide); clear hK K; (try simp only [Act.put, List.setIfInBounds_toArray, List.set_cons_zero, List.set_cons_succ])
                  (refine wpAnyL_one (i := 11) (o := _) (by kernel_rfl) rfl (fun K hK => ?_); clear hHeld; simp only [List.getElem_toArray, List.getElem_cons_zero, List.getElem_cons_succ]; go_simp; refine hK.out _ _ ?_ (fun hHeld => ?_); focus (intro _; exact KQ.out _ D11.out)); have hHeld := hHeld (by decide); clear hK K; (try simp only [Act.put, List.setIfInBounds_toArray, List.set_cons_zero, List.set_cons_succ])
                  refine wpAnyL_done (by kernel_rfl) ?_ _
                  go_wp2
                  go_meet
                  exact X.out
          · as_aux_lemma =>
              (clear hHeld; simp only [List.getElem_toArray, List.getElem_cons_zero, List.getElem_cons_succ]; go_simp; refine hK.out _ _ ?_ (fun hHeld => ?_); focus (intro _; exact KQ.out _ (D.alloc D.size _))); have hHeld := hHeld (by decide); clear hK K; (try simp only [Act.put, List.setIfInBounds_toArray, List.set_cons_zero, List.set_cons_succ])
              have H' := Blk.drew (Blk.new wc 34 #[.bool false, .slice none 0 0])
              have Hn : we.heap.size ≤ wc.heap.size := D.size
              have D1 : Below we.heap.size we ((wc.alloc (.cells #[.bool false, .slice none 0 0] 34)).drew) := (D.alloc D.size (.cells #[.bool false, .slice none 0 0] 34))
              clear D
              have D := D1
              clear D1
              obtain ⟨w9, hw9⟩ : ∃ w9, (wc.alloc (.cells #[.bool false, .slice none 0 0] 34)).drew = w9 := ⟨_, rfl⟩
              obtain ⟨Hg, hHg⟩ : ∃ Hg, wc.heap.size = Hg := ⟨_, rfl⟩
              rw [hw9] at H' D hHeld ⊢
              rw [hHg] at H' Hn ⊢
              have H := H'
              clear H' hw9 hHg
              refine wpAnyL_two (i := 3) (j := 8) (oi := _) (oj := _) (by kernel_rfl) rfl rfl (fun K hK => ?_) (fun K hK => ?_)
              · as_aux_lemma =>
                  (clear hHeld; simp only [List.getElem_toArray, List.getElem_cons_zero, List.getElem_cons_succ]; go_simp; (go_at_call 17; (with_reducible refine (HP.out _).mono ?_); rintro e w3 ⟨_, rfl, ⟨b1, A1, n1, c1, rfl, hp0⟩, hb⟩; have hp := hp0.zl; have D := D.trans (hb.mono D.size); have H := H.below hb H.lt); refine hK.out _ _ ?_ (fun hHeld => ?_); focus (intro _; exact KQ.out _ D)); have hHeld := hHeld (by decide); clear hK K; (try simp only [Act.put, List.setIfInBounds_toArray, List.set_cons_zero, List.set_cons_succ])
                  refine wpAnyL_two (i := 4) (j := 8) (oi := _) (oj := _) (by kernel_rfl) rfl rfl (fun K hK => ?_) (fun K hK => ?_)
                  · as_aux_lemma =>
                      (clear hHeld; simp only [List.getElem_toArray, List.getElem_cons_zero, List.getElem_cons_succ]; go_simp; (go_at_call 24; (with_reducible refine (DZ.out _ _ _ (VQ.out _ D).1 hp.v).mono ?_); rintro e w4 ⟨_, _, rfl, ⟨bq, Aq, nq, cq, rfl, hq⟩, ⟨br', Ar, nr, cr, rfl, hr⟩, hb⟩; have D := D.trans (hb.mono D.size); have H := H.below hb H.lt); refine hK.out _ _ ?_ (fun hHeld => ?_); focus (intro _; exact KQ.out _ D)); have hHeld := hHeld (by decide); clear hK K; (try simp only [Act.put, List.setIfInBounds_toArray, List.set_cons_zero, List.set_cons_succ])
                      (refine wpAnyL_take (i := 5) (oi := _) (v := ?_) rfl (by kernel_rfl) (by kernel_rfl) (by kernel_rfl) (fun _ _ _ h => h) (Or.inl ⟨by first | rfl | kernel_rfl, ?hy129⟩) (by assumption) ?rs129; (case hy129 => (intro w hSw; (try dsimp only at hSw); go_simp; first | done | with_reducible rfl)); case' rs129 => (simp only [List.getElem_toArray, List.getElem_cons_zero, List.getElem_cons_succ, Act.put, List.setIfInBounds_toArray, List.set_cons_zero, List.set_cons_succ])); (refine wpAnyL_take (i := 6) (oi := _) (v := ?_) rfl (by kernel_rfl) (by kernel_rfl) (by kernel_rfl) (fun _ _ _ h => h) (Or.inl ⟨by first | rfl | kernel_rfl, ?hy130⟩) (by assumption) ?rs130; (case hy130 => (intro w hSw; (try dsimp only at hSw); go_simp; first | done | with_reducible rfl)); case' rs130 => (simp only [List.getElem_toArray, List.getElem_cons_zero, List.getElem_cons_succ, Act.put, List.setIfInBounds_toArray, List.set_cons_zero, List.set_cons_succ])); (refine wpAnyL_take (i := 7) (oi := _) (v := ?_) rfl (by kernel_rfl) (by kernel_rfl) (by kernel_rfl) (fun _ _ _ h => h) (Or.inl ⟨by first | rfl | kernel_rfl, ?hy131⟩) (by assumption) ?rs131; (case hy131 => (intro w hSw; (try dsimp only at hSw); go_simp; first | done | with_reducible rfl)); case' rs131 => (simp only [List.getElem_toArray, List.getElem_cons_zero, List.getElem_cons_succ, Act.put, List.setIfInBounds_toArray, List.set_cons_zero, List.set_cons_succ])); skip
                      (refine wpAnyL_one (i := 8) (o := _) (by kernel_rfl) rfl (fun K hK => ?_); clear hHeld; simp only [List.getElem_toArray, List.getElem_cons_zero, List.getElem_cons_succ]; go_simp; refine hK.out _ _ ?_ (fun hHeld => ?_); focus (intro _; exact KQ.out _ (D.alloc D.size _))); have hHeld := hHeld (by decide); clear hK K; (try simp only [Act.put, List.setIfInBounds_toArray, List.set_cons_zero, List.set_cons_succ])
                      have G' := Blk.new w4 34 #[.bool false, .slice none 0 0]
                      have Gn : we.heap.size ≤ w4.heap.size := D.size
                      have hne : Hg ≠ w4.heap.size := Nat.ne_of_lt H.lt
                      have H := H.alloc (.cells #[.bool false, .slice none 0 0] 34)
                      have hq := (hq.alloc (.cells #[.bool false, .slice none 0 0] 34))
                      have hr := (hr.alloc (.cells #[.bool false, .slice none 0 0] 34))
                      have D1 : Below we.heap.size we (w4.alloc (.cells #[.bool false, .slice none 0 0] 34)) := D.alloc D.size (.cells #[.bool false, .slice none 0 0] 34)
                      clear D
                      have D := D1
                      clear D1
                      obtain ⟨w8, hw8⟩ : ∃ w8, w4.alloc (.cells #[.bool false, .slice none 0 0] 34) = w8 := ⟨_, rfl⟩
                      obtain ⟨Gg, hGg⟩ : ∃ Gg, w4.heap.size = Gg := ⟨_, rfl⟩
                      rw [hw8] at G' D H hq hr hHeld ⊢
                      rw [hGg] at G' Gn hne ⊢
                      have G := G'
                      clear G' hw8 hGg
                      have X := Lib.hid (qd_set D Gn Hn hne.symm G H hq hr)
                      have D10 := below_set2 D Gn (.bool bq) (.slice Aq nq cq)
                      have D11 := below_set2 D10 Hn (.bool br') (.slice Ar nr cr)
                      have H1 := H.far2 (hne.symm).symm (.bool bq) (.slice Aq nq cq)
                      have g0 := G.at_ 0 rfl; have g1 := G.at_ 1 rfl; have f0 := G.frozen 0; have f1 := G.frozen 1; have h0 := H1.at_ 0 rfl; have h1 := H1.at_ 1 rfl; have f2 := H1.frozen 0; have f3 := H1.frozen 1
                      have D10 := Lib.hid D10; have D11 := Lib.hid D11
                      clear G H H1 D hq hr hp
                      (refine wpAnyL_one (i := 10) (o := _) (by kernel_rfl) rfl (fun K hK => ?_); clear hHeld; simp only [List.getElem_toArray, List.getElem_cons_zero, List.getElem_cons_succ]; go_simp; refine hK.out _ _ ?_ (fun hHeld => ?_); focus (intro _; exact KQ.out _ D10.out)); have hHeld := hHeld (by decide); clear hK K; (try simp only [Act.put, List.setIfInBounds_toArray, List.set_cons_zero, List.set_cons_succ])
                      (refine wpAnyL_one (i := 11) (o := _) (by kernel_rfl) rfl (fun K hK => ?_); clear hHeld; simp only [List.getElem_toArray, List.getElem_cons_zero, List.getElem_cons_succ]; go_simp; refine hK.out _ _ ?_ (fun hHeld => ?_); focus (intro _; exact KQ.out _ D11.out)); have hHeld := hHeld (by decide); clear hK K; (try simp only [Act.put, List.setIfInBounds_toArray, List.set_cons_zero, List.set_cons_succ])
                      refine wpAnyL_done (by kernel_rfl) ?_ _
                      go_wp2
                      go_meet
                      exact X.out
                  · as_aux_lemma =>
                      (clear hHeld; simp only [List.getElem_toArray, List.getElem_cons_zero, List.getElem_cons_succ]; go_simp; refine hK.out _ _ ?_ (fun hHeld => ?_); focus (intro _; exact KQ.out _ (D.alloc D.size _))); have hHeld := hHeld (by decide); clear hK K; (try simp only [Act.put, List.setIfInBounds_toArray, List.set_cons_zero, List.set_cons_succ])
                      have G' := Blk.new w3 34 #[.bool false, .slice none 0 0]
                      have Gn : we.heap.size ≤ w3.heap.size := D.size
                      have hne : Hg ≠ w3.heap.size := Nat.ne_of_lt H.lt
                      have H := H.alloc (.cells #[.bool false, .slice none 0 0] 34)
                      have hp := (hp.alloc (.cells #[.bool false, .slice none 0 0] 34))
                      have D1 : Below we.heap.size we (w3.alloc (.cells #[.bool false, .slice none 0 0] 34)) := D.alloc D.size (.cells #[.bool false, .slice none 0 0] 34)
                      clear D
                      have D := D1
                      clear D1
                      obtain ⟨w8, hw8⟩ : ∃ w8, w3.alloc (.cells #[.bool false, .slice none 0 0] 34) = w8 := ⟨_, rfl⟩
                      obtain ⟨Gg, hGg⟩ : ∃ Gg, w3.heap.size = Gg := ⟨_, rfl⟩
                      rw [hw8] at G' D H hp hHeld ⊢
                      rw [hGg] at G' Gn hne ⊢
                      have G := G'
                      clear G' hw8 hGg
                      (refine wpAnyL_one (i := 4) (o := _) (by kernel_rfl) rfl (fun K hK => ?_); clear hHeld; simp only [List.getElem_toArray, List.getElem_cons_zero, List.getElem_cons_succ]; go_simp; (go_at_call 24; (with_reducible refine (DZ.out _ _ _ (VQ.out _ D).1 hp.v).mono ?_); rintro e w4 ⟨_, _, rfl, ⟨bq, Aq, nq, cq, rfl, hq⟩, ⟨br', Ar, nr, cr, rfl, hr⟩, hb⟩; have D := D.trans (hb.mono D.size); have G := G.below hb G.lt; have H := H.below hb H.lt); refine hK.out _ _ ?_ (fun hHeld => ?_); focus (intro _; exact KQ.out _ D)); have hHeld := hHeld (by decide); clear hK K; (try simp only [Act.put, List.setIfInBounds_toArray, List.set_cons_zero, List.set_cons_succ])
                      (refine wpAnyL_take (i := 5) (oi := _) (v := ?_) rfl (by kernel_rfl) (by kernel_rfl) (by kernel_rfl) (fun _ _ _ h => h) (Or.inl ⟨by first | rfl | kernel_rfl, ?hy132⟩) (by assumption) ?rs132; (case hy132 => (intro w hSw; (try dsimp only at hSw); go_simp; first | done | with_reducible rfl)); case' rs132 => (simp only [List.getElem_toArray, List.getElem_cons_zero, List.getElem_cons_succ, Act.put, List.setIfInBounds_toArray, List.set_cons_zero, List.set_cons_succ])); (refine wpAnyL_take (i := 6) (oi := _) (v := ?_) rfl (by kernel_rfl) (by kernel_rfl) (by kernel_rfl) (fun _ _ _ h => h) (Or.inl ⟨by first | rfl | kernel_rfl, ?hy133⟩) (by assumption) ?rs133; (case hy133 => (intro w hSw; (try dsimp only at hSw); go_simp; first | done | with_reducible rfl)); case' rs133 => (simp only [List.getElem_toArray, List.getElem_cons_zero, List.getElem_cons_succ, Act.put, List.setIfInBounds_toArray, List.set_cons_zero, List.set_cons_succ])); (refine wpAnyL_take (i := 7) (oi := _) (v := ?_) rfl (by kernel_rfl) (by kernel_rfl) (by kernel_rfl) (fun _ _ _ h => h) (Or.inl ⟨by first | rfl | kernel_rfl, ?hy134⟩) (by assumption) ?rs134; (case hy134 => (intro w hSw; (try dsimp only at hSw); go_simp; first | done | with_reducible rfl)); case' rs134 => (simp only [List.getElem_toArray, List.getElem_cons_zero, List.getElem_cons_succ, Act.put, List.setIfInBounds_toArray, List.set_cons_zero, List.set_cons_succ])); skip
                      have X := Lib.hid (qd_set D Gn Hn hne.symm G H hq hr)
                      have D10 := below_set2 D Gn (.bool bq) (.slice Aq nq cq)
                      have D11 := below_set2 D10 Hn (.bool br') (.slice Ar nr cr)
                      have H1 := H.far2 (hne.symm).symm (.bool bq) (.slice Aq nq cq)
                      have g0 := G.at_ 0 rfl; have g1 := G.at_ 1 rfl; have f0 := G.frozen 0; have f1 := G.frozen 1; have h0 := H1.at_ 0 rfl; have h1 := H1.at_ 1 rfl; have f2 := H1.frozen 0; have f3 := H1.frozen 1
                      have D10 := Lib.hid D10; have D11 := Lib.hid D11
                      clear G H H1 D hq hr hp
                      (refine wpAnyL_one (i := 10) (o := _) (by kernel_rfl) rfl (fun K hK => ?_); clear hHeld; simp only [List.getElem_toArray, List.getElem_cons_zero, List.getElem_cons_succ]; go_simp; refine hK.out _ _ ?_ (fun hHeld => ?_); focus (intro _; exact KQ.out _ D10.out)); have hHeld := hHeld (by decide); clear hK K; (try simp only [Act.put, List.setIfInBounds_toArray, List.set_cons_zero, List.set_cons_succ])
                      (refine wpAnyL_one (i := 11) (o := _) (by kernel_rfl) rfl (fun K hK => ?_); clear hHeld; simp only [List.getElem_toArray, List.getElem_cons_zero, List.getElem_cons_succ]; go_simp; refine hK.out _ _ ?_ (fun hHeld => ?_); focus (intro _; exact KQ.out _ D11.out)); have hHeld := hHeld (by decide); clear hK K; (try simp only [Act.put, List.setIfInBounds_toArray, List.set_cons_zero, List.set_cons_succ])
                      refine wpAnyL_done (by kernel_rfl) ?_ _
                      go_wp2
                      go_meet
                      exact X.out
              · as_aux_lemma =>
                  (clear hHeld; simp only [List.getElem_toArray, List.getElem_cons_zero, List.getElem_cons_succ]; go_simp; refine hK.out _ _ ?_ (fun hHeld => ?_); focus (intro _; exact KQ.out _ (D.alloc D.size _))); have hHeld := hHeld (by decide); clear hK K; (try simp only [Act.put, List.setIfInBounds_toArray, List.set_cons_zero, List.set_cons_succ])
                  have G' := Blk.new w9 34 #[.bool false, .slice none 0 0]
                  have Gn : we.heap.size ≤ w9.heap.size := D.size
                  have hne : Hg ≠ w9.heap.size := Nat.ne_of_lt H.lt
                  have H := H.alloc (.cells #[.bool false, .slice none 0 0] 34)
                  have D1 : Below we.heap.size we (w9.alloc (.cells #[.bool false, .slice none 0 0] 34)) := D.alloc D.size (.cells #[.bool false, .slice none 0 0] 34)
                  clear D
                  have D := D1
                  clear D1
                  obtain ⟨w8, hw8⟩ : ∃ w8, w9.alloc (.cells #[.bool false, .slice none 0 0] 34) = w8 := ⟨_, rfl⟩
                  obtain ⟨Gg, hGg⟩ : ∃ Gg, w9.heap.size = Gg := ⟨_, rfl⟩
                  rw [hw8] at G' D H hHeld ⊢
                  rw [hGg] at G' Gn hne ⊢
                  have G := G'
                  clear G' hw8 hGg
                  (refine wpAnyL_one (i := 3) (o := _) (by kernel_rfl) rfl (fun K hK => ?_); clear hHeld; simp only [List.getElem_toArray, List.getElem_cons_zero, List.getElem_cons_succ]; go_simp; (go_at_call 17; (with_reducible refine (HP.out _).mono ?_); rintro e w3 ⟨_, rfl, ⟨b1, A1, n1, c1, rfl, hp0⟩, hb⟩; have hp := hp0.zl; have D := D.trans (hb.mono D.size); have G := G.below hb G.lt; have H := H.below hb H.lt); refine hK.out _ _ ?_ (fun hHeld => ?_); focus (intro _; exact KQ.out _ D)); have hHeld := hHeld (by decide); clear hK K; (try simp only [Act.put, List.setIfInBounds_toArray, List.set_cons_zero, List.set_cons_succ])
                  (refine wpAnyL_one (i := 4) (o := _) (by kernel_rfl) rfl (fun K hK => ?_); clear hHeld; simp only [List.getElem_toArray, List.getElem_cons_zero, List.getElem_cons_succ]; go_simp; (go_at_call 24; (with_reducible refine (DZ.out _ _ _ (VQ.out _ D).1 hp.v).mono ?_); rintro e w4 ⟨_, _, rfl, ⟨bq, Aq, nq, cq, rfl, hq⟩, ⟨br', Ar, nr, cr, rfl, hr⟩, hb⟩; have D := D.trans (hb.mono D.size); have G := G.below hb G.lt; have H := H.below hb H.lt); refine hK.out _ _ ?_ (fun hHeld => ?_); focus (intro _; exact KQ.out _ D)); have hHeld := hHeld (by decide); clear hK K; (try simp only [Act.put, List.setIfInBounds_toArray, List.set_cons_zero, List.set_cons_succ])
                  (refine wpAnyL_take (i := 5) (oi := _) (v := ?_) rfl (by kernel_rfl) (by kernel_rfl) (by kernel_rfl) (fun _ _ _ h => h) (Or.inl ⟨by first | rfl | kernel_rfl, ?hy135⟩) (by assumption) ?rs135; (case hy135 => (intro w hSw; (try dsimp only at hSw); go_simp; first | done | with_reducible rfl)); case' rs135 => (simp only [List.getElem_toArray, List.getElem_cons_zero, List.getElem_cons_succ, Act.put, List.setIfInBounds_toArray, List.set_cons_zero, List.set_cons_succ])); (refine wpAnyL_take (i := 6) (oi := _) (v := ?_) rfl (by kernel_rfl) (by kernel_rfl) (by kernel_rfl) (fun _ _ _ h => h) (Or.inl ⟨by first | rfl | kernel_rfl, ?hy136⟩) (by assumption) ?rs136; (case hy136 => (intro w hSw; (try dsimp only at hSw); go_simp; first | done | with_reducible rfl)); case' rs136 => (simp only [List.getElem_toArray, List.getElem_cons_zero, List.getElem_cons_succ, Act.put, List.setIfInBounds_toArray, List.set_cons_zero, List.set_cons_succ])); (refine wpAnyL_take (i := 7) (oi := _) (v := ?_) rfl (by kernel_rfl) (by kernel_rfl) (by kernel_rfl) (fun _ _ _ h => h) (Or.inl ⟨by first | rfl | kernel_rfl, ?hy137⟩) (by assumption) ?rs137; (case hy137 => (intro w hSw; (try dsimp only at hSw); go_simp; first | done | with_reducible rfl)); case' rs137 => (simp only [List.getElem_toArray, List.getElem_cons_zero, List.getElem_cons_succ, Act.put, List.setIfInBounds_toArray, List.set_cons_zero, List.set_cons_succ])); skip
                  have X := Lib.hid (qd_set D Gn Hn hne.symm G H hq hr)
                  have D10 := below_set2 D Gn (.bool bq) (.slice Aq nq cq)
                  have D11 := below_set2 D10 Hn (.bool br') (.slice Ar nr cr)
                  have H1 := H.far2 (hne.symm).symm (.bool bq) (.slice Aq nq cq)
                  have g0 := G.at_ 0 rfl; have g1 := G.at_ 1 rfl; have f0 := G.frozen 0; have f1 := G.frozen 1; have h0 := H1.at_ 0 rfl; have h1 := H1.at_ 1 rfl; have f2 := H1.frozen 0; have f3 := H1.frozen 1
                  have D10 := Lib.hid D10; have D11 := Lib.hid D11
                  clear G H H1 D hq hr hp
                  (refine wpAnyL_one (i := 10) (o := _) (by kernel_rfl) rfl (fun K hK => ?_); clear hHeld; simp only [List.getElem_toArray, List.getElem_cons_zero, List.getElem_cons_succ]; go_simp; refine hK.out _ _ ?_ (fun hHeld => ?_); focus (intro _; exact KQ.out _ D10.out)); have hHeld := hHeld (by decide); clear hK K; (try simp only [Act.put, List.setIfInBounds_toArray, List.set_cons_zero, List.set_cons_succ])
                  (refine wpAnyL_one (i := 11) (o := _) (by kernel_rfl) rfl (fun K hK => ?_); clear hHeld; simp only [List.getElem_toArray, List.getElem_cons_zero, List.getElem_cons_succ]; go_simp; refine hK.out _ _ ?_ (fun hHeld => ?_); focus (intro _; exact KQ.out _ D11.out)); have hHeld := hHeld (by decide); clear hK K; (try simp only [Act.put, List.setIfInBounds_toArray, List.set_cons_zero, List.set_cons_succ])
                  refine wpAnyL_done (by kernel_rfl) ?_ _
                  go_wp2
                  go_meet
                  exact X.out
        case rest =>
          obtain ⟨gq, gr, bq, Aq, nq, cq, br', Ar, nr, cr, rfl, rfl, hG, hH, hq, hr, hD⟩ := hcut
          have D := Lib.hid hD
          have q0 := hG.at_ 0 rfl
          have q1 := hG.at_ 1 rfl
          have r0 := hH.at_ 0 rfl
          have r1 := hH.at_ 1 rfl
          clear hD hG
          rcases h6 with ⟨rfl, h7⟩ | ⟨rfl, h7⟩
          · go_wp2_with (first
              | (go_at_call 19; (with_reducible refine (LX.out _ _ D.out hq.v).mono ?_); rintro e w1 ⟨rfl, hb⟩; have hr := hr.below hb; have hH := hH.below hb hH.lt; have D := Lib.hid (D.out.trans (hb.mono D.out.size)); have r0 := hH.at_ 0 rfl; have r1 := hH.at_ 1 rfl)
              | (go_at_call 25; (with_reducible refine (SG.out _ _ hr.v).mono ?_); rintro e w2 ⟨rfl, hb2⟩; have D := Lib.hid (D.out.trans (hb2.mono D.out.size))))
            go_ret
            first | exact ⟨rfl, (X9.out _ D.out).2⟩ | exact ⟨ret_bool (by simp [h7]), (X9.out _ D.out).2⟩ | exact ⟨ret_bool (by simp; omega), (X9.out _ D.out).2⟩
          · go_wp2_with (first
              | (go_at_call 19; (with_reducible refine (LX.out _ _ D.out hq.v).mono ?_); rintro e w1 ⟨rfl, hb⟩; have hr := hr.below hb; have hH := hH.below hb hH.lt; have D := Lib.hid (D.out.trans (hb.mono D.out.size)); have r0 := hH.at_ 0 rfl; have r1 := hH.at_ 1 rfl)
              | (go_at_call 25; (with_reducible refine (SG.out _ _ hr.v).mono ?_); rintro e w2 ⟨rfl, hb2⟩; have D := Lib.hid (D.out.trans (hb2.mono D.out.size))))
            go_ret
            first | exact ⟨rfl, (X9.out _ D.out).2⟩ | exact ⟨ret_bool (by simp [h7]), (X9.out _ D.out).2⟩ | exact ⟨ret_bool (by simp; omega), (X9.out _ D.out).2⟩
end NT
end Go.Proofs.YtnpeokgjfnobmaaDoor

/-
  ulpkeep.natLives.
-/
namespace Go.Proofs.YtnpeokgjfnobmaaDoor
set_option linter.unusedVariables false
set_option linter.unusedSimpArgs false
open Go.RowKit
set_option linter.unusedVariables false
namespace NC
open L
open Z (Nz Tz cmpv)
def decF : Nat → Nat → List UInt8
  | 0, _ => []
  | f + 1, n => if n < 10 then [dg n] else decF f (n / 10) ++ [dg n]
theorem dec_eq : ∀ (f n : Nat), n < 10 ^ (f + 1) → dec n = decF (f + 1) n := by
  intro f
  induction f with
  | zero => intro n h; rw [dec_small (by omega), decF, if_pos (by omega)]
  | succ f ih =>
    intro n h
    by_cases h0 : n < 10
    · rw [dec_small h0, decF, if_pos h0]
    · rw [dec_more h0, decF, if_neg h0, ih _ (by rw [Nat.pow_succ] at h; omega)]
theorem ok_lit (w : World) (zs : List Int) (hn : zs.length ≤ 1000) :
    Calls Tryd.prog 50 #[.slice (some ⟨w.heap.size, 0, none⟩) zs.length zs.length] (w.alloc (.cells (zs.map (Value.int .i64)).toArray 23)) fun e w' => e = .returned (.bool (zs.all (· == 0))) ∧ w.alloc (.cells (zs.map (Value.int .i64)).toArray 23) = w' := by
  refine OkC.ok_c zs w.heap.size 0 zs.length _ hn fun i hi => ?_
  have hb := Blk.new w 23 (zs.map (Value.int .i64)).toArray
  rw [Nat.zero_add]
  refine hb.at_ i ?_
  rw [List.getElem?_toArray, List.getElem?_map, List.getD_eq_getElem?_getD, List.getElem?_eq_getElem hi]; rfl
theorem lives_text : bs (dec 6338253001141147007483516026880) = ⟨#[54, 51, 51, 56, 50, 53, 51, 48, 48, 49, 49, 52, 49, 49, 52, 55, 48, 48, 55, 52, 56, 51, 53, 49, 54, 48, 50, 54, 56, 56, 48]⟩ := by
  rw [dec_eq 30 _ (by decide)]
  decide +kernel
theorem small_400 {z : Int} (h : z < 4294967296 ^ 5) : z < 4294967296 ^ 400 := Int.lt_of_lt_of_le h (pow_mono (by decide))
theorem small_big {z : Int} (h : z < 4294967296 ^ 5) : z < big3 := Int.lt_of_lt_of_le h (pow_mono (by decide))
theorem erz0 {z : Int} (h : z < 4294967296 ^ 5) : erz z = 0 := by unfold erz; rw [if_pos (small_400 h)]
end NC
end Go.Proofs.YtnpeokgjfnobmaaDoor

/-
  NatDivides: the walk.
-/
namespace Go.Proofs.YtnpeokgjfnobmaaDoor
set_option linter.unusedVariables false
set_option linter.unusedSimpArgs false
open Go.RowKit
set_option linter.unusedVariables false
namespace NK
open L NC
open Z (Nz Tz cmpv)
theorem NV.zero {w : World} {A : Option Addr} {n c : Nat} (h : NV w (.slice A n c) 0) : n = 0 := by
  obtain ⟨L, h1, h2, h3, h4⟩ := h
  have e := lv_inj h2 Lim.nil h3 (by intro h; exact absurd rfl h) (h4.trans (show (0 : Int) = lv [] from rfl))
  have := h1.len_.1
  rw [this, e]; rfl
theorem Mul_0 {u v : Value} {a b : Int} {w : World} (h1 : PV w u 0 a) (h2 : PV w v 0 b) : Calls Tryd.prog 80 #[u, v] w (RetP w 0 (a * b)) := Mul_p h1 h2
theorem Add_0 {u v : Value} {a b : Int} {w : World} (h1 : PV w u 0 a) (h2 : PV w v 0 b) : Calls Tryd.prog 108 #[u, v] w (RetP w 0 (a + b)) := Add_p h1 h2
theorem Cmp_0 {u v : Value} {a b : Int} {w : World} (h1 : PV w u 0 a) (h2 : PV w v 0 b) : Calls Tryd.prog 97 #[u, v] w (RetQ w (.tuple #[.int .i64 (cmpv a b), .int .i64 0])) := Cmp_p h1 h2
theorem Sub_0 {u v : Value} {a b : Int} {w : World} (h1 : PV w u 0 a) (h2 : PV w v 0 b) (h : b ≤ a) : Calls Tryd.prog 110 #[u, v] w (RetP w 0 (a - b)) := by
  have h3 := Sub_p h1 h2
  have e : es 0 0 a b = 0 := by unfold es; rw [if_pos (ee0.2 ⟨rfl, rfl⟩), if_neg (by omega)]
  rwa [e, if_pos rfl] at h3
theorem Equal_0 {s t : Value} {z : Int} {w : World} (hs : NV w s z) (ht : NV w t z) (b1 : z < big3) : Calls Tryd.prog 31 #[s, t] w (RetQ w (.bool true)) := by
  have h := Equal_p hs ht b1 b1
  simpa using h
theorem erz_0 {z : Int} (h : z < 4294967296 ^ 400) : erz z = 0 := by unfold erz; rw [if_pos h]
theorem lit_below (w : World) (o : Obj) : Below w.heap.size w (w.alloc o) := (Below.refl _ _).alloc (Nat.le_refl _) _
end NK
end Go.Proofs.YtnpeokgjfnobmaaDoor

/-
  NatRoots, NatRing: the walks.
-/
namespace Go.Proofs.YtnpeokgjfnobmaaDoor
set_option linter.unusedVariables false
set_option linter.unusedSimpArgs false
open Go.RowKit
set_option linter.unusedVariables false
namespace NK
open L NC
open Z (Nz Tz cmpv)
theorem root_eq {R A z : Int} (h1 : R * R ≤ z) (h2 : z < (R + 1) * (R + 1)) (h3 : 0 ≤ R) (h4 : A * A ≤ z) (h5 : z < (A + 1) * (A + 1)) (h6 : 0 ≤ A) : R = A := by
  rcases Int.lt_or_le R A with h | h
  · have := Int.mul_le_mul (show R + 1 ≤ A by omega) (show R + 1 ≤ A by omega) (by omega) h6
    omega
  · rcases Int.lt_or_le A R with h' | h'
    · have := Int.mul_le_mul (show A + 1 ≤ R by omega) (show A + 1 ≤ R by omega) (by omega) h3
      omega
    · omega
theorem ok2_no (W : World) (x y : Int) (h : x ≠ 0 ∨ y ≠ 0) : Calls Tryd.prog 50 #[.slice (some ⟨W.heap.size, 0, none⟩) 2 2] (W.alloc (.cells #[.int .i64 x, .int .i64 y] 23)) fun e w' => e = .returned (.bool false) ∧ W.alloc (.cells #[.int .i64 x, .int .i64 y] 23) = w' := by
  have h1 := ok_lit W [x, y] (by simp)
  have e : ([x, y].all (· == 0)) = false := by
    rcases h with h | h <;> simp [h]
  rw [e] at h1
  exact h1
theorem ok2_yes (W : World) : Calls Tryd.prog 50 #[.slice (some ⟨W.heap.size, 0, none⟩) 2 2] (W.alloc (.cells #[.int .i64 0, .int .i64 0] 23)) fun e w' => e = .returned (.bool true) ∧ W.alloc (.cells #[.int .i64 0, .int .i64 0] 23) = w' := ok_lit W [0, 0] (by simp)
theorem one_pv (W : World) : PV (W.alloc (.cells #[.int .u32 1] 56)) (.slice (some ⟨W.heap.size, 0, none⟩) 1 1) 0 1 :=
  ⟨[1], Row.sl (L := [1]) (Blk.new W 56 #[.int .u32 1]) 1 (by simp), by intro d hd; simp at hd; omega, by simp, by decide, by simp [lv]⟩
end NK
end Go.Proofs.YtnpeokgjfnobmaaDoor

/-
  NatRing: the walk.
-/
namespace Go.Proofs.YtnpeokgjfnobmaaDoor
set_option linter.unusedVariables false
set_option linter.unusedSimpArgs false
open Go.RowKit
set_option linter.unusedVariables false
namespace NK
open L NC
open Z (Nz Tz cmpv)
/-- the result of a sum, a product: its limbs, small enough -/
def RetG (w : World) (er z : Int) (e : Ending) (w' : World) : Prop := ∃ A n c, e = .returned (.tuple #[.slice A n c, .int .i64 er]) ∧ PV w' (.slice A n c) (erz z) z ∧ NV w' (.slice A n c) z ∧ Below w.heap.size w w'
theorem add_gen {u v : Value} {e1 e2 a b E z : Int} (hE : ee e1 e2 = E) (hz : (if E = 0 then a + b else 0) = z) : ∀ W, PV W u e1 a → PV W v e2 b → Calls Tryd.prog 108 #[u, v] W (RetP W E z) := fun W h1 h2 => by
  have h := Add_p h1 h2
  rwa [hE, hz] at h
theorem mul_gen {u v : Value} {e1 e2 a b E z : Int} (hE : ee e1 e2 = E) (hz : (if E = 0 then a * b else 0) = z) : ∀ W, PV W u e1 a → PV W v e2 b → Calls Tryd.prog 80 #[u, v] W (RetP W E z) := fun W h1 h2 => by
  have h := Mul_p h1 h2
  rwa [hE, hz] at h
theorem erz_small {z : Int} (h : erz z = 0) : z < 4294967296 ^ 400 := by
  unfold erz at h
  by_cases h' : z < 4294967296 ^ 400
  · exact h'
  · rw [if_neg h'] at h; cases h
theorem add_bd {e1 e2 a b E z : Int} (hE : ee e1 e2 = E) (hz : (if E = 0 then a + b else 0) = z) (h1 : e1 = 0 → a < 4294967296 ^ 400) (h2 : e2 = 0 → b < 4294967296 ^ 400) (ha : 0 ≤ a) (hb : 0 ≤ b) : 0 ≤ z ∧ z < big3 ∧ (E = 0 → e1 = 0 ∧ e2 = 0 ∧ z = a + b) := by
  by_cases h : E = 0
  · rw [if_pos h] at hz
    rw [h] at hE
    have h3 := ee0.1 hE
    have h4 := big3_bds (h1 h3.1) (h2 h3.2) ha hb
    exact ⟨by omega, by rw [← hz]; exact h4.1, fun _ => ⟨h3.1, h3.2, hz.symm⟩⟩
  · rw [if_neg h] at hz
    exact ⟨by omega, by rw [← hz]; exact big3_pos, fun h' => absurd h' h⟩
theorem mul_bd {e1 e2 a b E z : Int} (hE : ee e1 e2 = E) (hz : (if E = 0 then a * b else 0) = z) (h1 : e1 = 0 → a < 4294967296 ^ 400) (h2 : e2 = 0 → b < 4294967296 ^ 400) (ha : 0 ≤ a) (hb : 0 ≤ b) : 0 ≤ z ∧ z < big3 ∧ (E = 0 → e1 = 0 ∧ e2 = 0 ∧ z = a * b) := by
  by_cases h : E = 0
  · rw [if_pos h] at hz
    rw [h] at hE
    have h3 := ee0.1 hE
    have h4 := big3_bds (h1 h3.1) (h2 h3.2) ha hb
    exact ⟨by rw [← hz]; exact Int.mul_nonneg ha hb, by rw [← hz]; exact h4.2.1, fun _ => ⟨h3.1, h3.2, hz.symm⟩⟩
  · rw [if_neg h] at hz
    exact ⟨by omega, by rw [← hz]; exact big3_pos, fun h' => absurd h' h⟩
theorem bdrew {B : Nat} {w W : World} (h : Below B w W) (k : Nat) : Below B w (W.drewN k) := ⟨h.os, h.tape, h.output, h.size, h.block⟩
theorem bself (w : World) (k : Nat) : Below w.heap.size w (w.drewN k) := ⟨rfl, rfl, rfl, Nat.le_refl _, fun _ _ => rfl⟩
theorem ee_comm0 {a b : Int} : ee a b = 0 ↔ ee b a = 0 := by rw [ee0, ee0, and_comm]
/-- what is told of equal limbs, as a bool with a name -/
theorem equal_gen {s t : Value} {y z : Int} {W : World} (hs : NV W s y) (ht : NV W t z) (h : y = z) (b1 : y < big3) : Calls Tryd.prog 31 #[s, t] W (RetQ W (.bool true)) := by
  subst h
  exact Equal_0 hs ht b1
theorem ok4 (W : World) (x1 x2 x3 x4 : Int) (o : Bool) (ho : [x1, x2, x3, x4].all (· == 0) = o) : Calls Tryd.prog 50 #[.slice (some ⟨W.heap.size, 0, none⟩) 4 4] (W.alloc (.cells #[.int .i64 x1, .int .i64 x2, .int .i64 x3, .int .i64 x4] 23)) fun e w' => e = .returned (.bool o) ∧ W.alloc (.cells #[.int .i64 x1, .int .i64 x2, .int .i64 x3, .int .i64 x4] 23) = w' := by
  have h1 := ok_lit W [x1, x2, x3, x4] (by simp)
  rw [ho] at h1
  exact h1
theorem ok5 (W : World) (x1 x2 x3 x4 x5 : Int) (o : Bool) (ho : [x1, x2, x3, x4, x5].all (· == 0) = o) : Calls Tryd.prog 50 #[.slice (some ⟨W.heap.size, 0, none⟩) 5 5] (W.alloc (.cells #[.int .i64 x1, .int .i64 x2, .int .i64 x3, .int .i64 x4, .int .i64 x5] 23)) fun e w' => e = .returned (.bool o) ∧ W.alloc (.cells #[.int .i64 x1, .int .i64 x2, .int .i64 x3, .int .i64 x4, .int .i64 x5] 23) = w' := by
  have h1 := ok_lit W [x1, x2, x3, x4, x5] (by simp)
  rw [ho] at h1
  exact h1
end NK
end Go.Proofs.YtnpeokgjfnobmaaDoor

