/-
  slices.Equal of limbs; package nat: Shift up, and its errors; ulpkeep.natLives.
-/
import Derived.Test.YtjihapnplfdmmaaDoorN16
import Derived.Test.YtjihapnplfdmmaaDoorOk
namespace Go.Proofs.YtjihapnplfdmmaaDoor
open Go.RowKit
set_option linter.unusedVariables false
namespace NC
open L
open Z (Nz Tz cmpv)
theorem Equal_c (s t : Value) (L M : List Int) (w : World) (hs : Sl .u32 w s L) (ht : Sl .u32 w t M) (bL : L.length ≤ 9223372036854775807) (bM : M.length ≤ 9223372036854775807) :
    Calls Tryd.prog 26 #[s, t] w (RetQ w (.bool (decide (L = M)))) := by
  obtain ⟨n, hn⟩ : ∃ n, n = L.length := ⟨_, rfl⟩
  obtain ⟨m, hm⟩ : ∃ m, m = M.length := ⟨_, rfl⟩
  obtain ⟨A, c, rfl, hc, hcL⟩ := hs.open_
  obtain ⟨B, d, rfl, hd, hcM⟩ := ht.open_
  rw [← hn] at bL hc hcL ⊢
  rw [← hm] at bM hd hcM ⊢
  obtain ⟨r, hr⟩ : ∃ r, r = decide (L = M) := ⟨_, rfl⟩
  rw [← hr]
  have HR := Lib.hid hr
  have HN := Lib.hid hn
  have HM := Lib.hid hm
  have CL := Lib.hid hcL
  have CM := Lib.hid hcM
  clear hr hn hm hcL hcM hs ht
  by_cases h0 : n = m
  · subst h0
    have e1 : ((n : Int) != (n : Int)) = false := by simp
    go_enter Tryd.func26, Tryd.ntmps26
    go_wp2
    clear e1
    go_loopw [13] (fun i wr => ∃ k : Nat, k ≤ n ∧ i = .int .i64 k ∧ (∃ q, wr = w.drewN q) ∧ Hid (L.take k = M.take k)) (fun i _ => n - (intOf i).toNat)
    case atStart => exact ⟨0, by omega, rfl, ⟨0, rfl⟩, by unfold Hid; simp⟩
    case round =>
      obtain ⟨k, hk, rfl, ⟨q, rfl⟩, hd⟩ := hrel
      by_cases hk0 : k < n
      · obtain ⟨ad, rfl, hb1, hx⟩ := CL.out k hk0
        obtain ⟨ad2, rfl, hb2, hy⟩ := CM.out k hk0
        obtain ⟨x, hX⟩ : ∃ x, L.getD k 0 = x := ⟨_, rfl⟩
        obtain ⟨y, hY⟩ : ∃ y, M.getD k 0 = y := ⟨_, rfl⟩
        rw [hX] at hx
        rw [hY] at hy
        have i1 : (k : Int) < (n : Int) := by omega
        have eL : L[k]'(by rw [← HN.out]; exact hk0) = x := by rw [← hX, List.getD_eq_getElem?_getD, List.getElem?_eq_getElem (by rw [← HN.out]; exact hk0)]; rfl
        have eM : M[k]'(by rw [← HM.out]; exact hk0) = y := by rw [← hY, List.getD_eq_getElem?_getD, List.getElem?_eq_getElem (by rw [← HM.out]; exact hk0)]; rfl
        by_cases hxy : x = y
        · have e1 : (x != y) = false := by simp [hxy]
          have HD2 : Hid (L.take (k + 1) = M.take (k + 1)) := by
            unfold Hid
            rw [List.take_succ_eq_append_getElem (by rw [← HN.out]; exact hk0), List.take_succ_eq_append_getElem (by rw [← HM.out]; exact hk0), eL, eM, hd.out, hxy]
          clear hxy eL eM hX hY hb1 hb2
          go_wp2
          go_region
          go_wp2
          exact ⟨⟨k + 1, by omega, by simp, ⟨q + 1, rfl⟩, HD2.out⟩, by simp only [intOf]; omega⟩
        · have e1 : (x != y) = true := by simp [hxy]
          have HE : r = false := by
            rw [HR.out]
            simp only [decide_eq_false_iff_not]
            intro e
            apply hxy
            rw [← eL, ← eM]
            simp only [e]
          have HE := Lib.hid HE
          clear hxy eL eM hX hY hb1 hb2
          go_wp2
          go_region
          go_wp2
          go_ret
          exact ⟨ret_bool HE.out.symm, q + 1, rfl⟩
      · obtain rfl : n = k := by omega
        have HE : r = true := by
          rw [HR.out]
          have := hd.out
          rw [HN.out, List.take_length, ← HN.out, HM.out, List.take_length] at this
          simp [this]
        have HE := Lib.hid HE
        go_wp2
        go_ret
        exact ⟨ret_bool HE.out.symm, q, rfl⟩
  · have e1 : ((n : Int) != (m : Int)) = true := by rw [bne_iff_ne]; omega
    have HE : r = false := by
      rw [HR.out]
      simp only [decide_eq_false_iff_not]
      intro e
      apply h0
      rw [HN.out, HM.out, e]
    have HE := Lib.hid HE
    clear h0
    go_enter Tryd.func26, Tryd.ntmps26
    go_wp2
    go_ret
    exact ⟨ret_bool HE.out.symm, 0, rfl⟩
/-- two slices in normal form: equal where their numbers are -/
theorem equal_nv (s t : Value) (y z : Int) (w : World) (hs : NV w s y) (ht : NV w t z) (b1 : y < 4294967296 ^ 3000) (b2 : z < 4294967296 ^ 3000) : Calls Tryd.prog 26 #[s, t] w (RetQ w (.bool (decide (y = z)))) := by
  obtain ⟨L, l1, l2, l3, l4⟩ := hs
  obtain ⟨M, m1, m2, m3, m4⟩ := ht
  have hL : L.length ≤ 3000 := len_le l2 l3 (by rw [l4]; exact b1)
  have hM : M.length ≤ 3000 := len_le m2 m3 (by rw [m4]; exact b2)
  have h := Equal_c s t L M w l1 m1 (by omega) (by omega)
  have e : decide (L = M) = decide (y = z) := by
    apply decide_eq_decide.2
    constructor
    · intro e; rw [← l4, ← m4, e]
    · intro e; exact lv_inj l2 m2 l3 m3 (by rw [l4, m4, e])
  rwa [e] at h
/-- what Shift tells -/
def RetSh (w : World) (er z : Int) (b : Bool) (e : Ending) (w' : World) : Prop := ∃ A n c, e = .returned (.tuple #[.slice A n c, .bool b, .int .i64 er]) ∧ NV w' (.slice A n c) z ∧ Below w.heap.size w w'
theorem RetSh.err {w w' : World} {er : Int} (hb : Below w.heap.size w w') : RetSh w er 0 false (.returned (.tuple #[.slice none 0 0, .bool false, .int .i64 er])) w' := ⟨none, 0, 0, rfl, NV.nil _ _ _, hb⟩
theorem ShiftErr_c (v : Value) (l : List Int) (n : Int) (w : World) (hs : Sl .u32 w v l) (hl : l.length ≤ 9223372036854775807) (h : chk l ≠ 0) : Calls Tryd.prog 9 #[v, .int .i64 n] w (RetSh w (chk l) 0 false) := by
  have C := Lib.hid (Check_c v l w hs hl)
  obtain ⟨r, hr⟩ : ∃ r, r = chk l := ⟨_, rfl⟩
  rw [← hr] at C h ⊢
  have e1 : (r != 0) = true := by simp [h]
  clear hs hl hr h
  go_enter Tryd.func9, Tryd.ntmps9
  go_wp2_with (first | (go_at_call 32; (with_reducible refine (C.out).mono ?_); rintro e w' ⟨rfl, rfl⟩))
  go_ret3
  exact RetSh.err (Below.refl _ _)
theorem ShiftFar_c (v : Value) (l : List Int) (n : Int) (w : World) (hs : Sl .u32 w v l) (hl : l.length ≤ 9223372036854775807) (h : chk l = 0) (hn : n < -20000 ∨ 20000 < n) : Calls Tryd.prog 9 #[v, .int .i64 n] w (RetSh w 1 0 false) := by
  have C := Lib.hid (Check_c v l w hs hl)
  rw [h] at C
  clear hs hl h
  rcases hn with hn | hn
  · go_enter Tryd.func9, Tryd.ntmps9
    go_wp2_with (first | (go_at_call 32; (with_reducible refine (C.out).mono ?_); rintro e w' ⟨rfl, rfl⟩))
    go_ret3
    exact RetSh.err (Below.refl _ _)
  · have h2 : ¬ n < -20000 := by omega
    go_enter Tryd.func9, Tryd.ntmps9
    go_wp2_with (first | (go_at_call 32; (with_reducible refine (C.out).mono ?_); rintro e w' ⟨rfl, rfl⟩))
    go_ret3
    exact RetSh.err (Below.refl _ _)
theorem ShiftUp_c (v : Value) (l : List Int) (n : Nat) (w : World) (hs : Sl .u32 w v l) (Ll : Lim l) (h : chk l = 0) (hn : n ≤ 20000) : Calls Tryd.prog 9 #[v, .int .i64 n] w (RetSh w 0 (lv l * 2 ^ n) false) := by
  have h1 := chk_ok.1 h
  have C := Lib.hid (Check_c v l w hs (by omega))
  have S := Lib.hid (shiftUp_c v l n w hs Ll (by omega) (by omega))
  rw [h] at C
  generalize lv l * 2 ^ n = z at *
  have h2 : ¬ (n : Int) < -20000 := by omega
  have h3 : ¬ (20000 : Int) < n := by omega
  have h4 : ¬ (n : Int) < 0 := by omega
  clear hs Ll h h1
  go_enter Tryd.func9, Tryd.ntmps9
  go_wp2_with (first | (go_at_call 32; (with_reducible refine (C.out).mono ?_); rintro e w' ⟨rfl, rfl⟩) | (go_at_call 36; (with_reducible refine (S.out).mono ?_); rintro e w2 ⟨A, m, c, rfl, hv, hb⟩))
  go_ret3
  exact ⟨A, m, c, rfl, hv, hb⟩
end NC
end Go.Proofs.YtjihapnplfdmmaaDoor
