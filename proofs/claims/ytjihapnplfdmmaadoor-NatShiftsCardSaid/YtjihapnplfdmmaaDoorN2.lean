/-
  Package nat: compare; cmp.Compare of ints and of limbs.
-/
import Derived.Test.YtjihapnplfdmmaaDoorN1
namespace Go.Proofs.YtjihapnplfdmmaaDoor
open Go.RowKit
set_option linter.unusedVariables false
namespace NC
open L
open Z (Nz Tz cmpv)
theorem cmpInt_c (x y : Int) (w : World) : Calls Tryd.prog 62 #[.int .i64 x, .int .i64 y] w (fun e w' => e = .returned (.int .i64 (cmpv x y)) ∧ w = w') := by
  have e0 : (x != x) = false := by simp
  have e1 : (y != y) = false := by simp
  rcases Int.lt_trichotomy x y with h | h | h
  · have hr := Lib.hid (Z.cmpv_lt h)
    have e2 : decide (x < y) = true := by simp [h]
    clear h
    go_enter Tryd.func62, Tryd.ntmps62
    go_wp2
    go_ret
    exact ⟨ret_int hr.out.symm, rfl⟩
  · have hr := Lib.hid (Z.cmpv_eq h)
    have e2 : decide (x < y) = false := by simp [h]
    have e3 : decide (y < x) = false := by simp [h]
    clear h
    go_enter Tryd.func62, Tryd.ntmps62
    go_wp2
    go_ret
    exact ⟨ret_int hr.out.symm, rfl⟩
  · have hr := Lib.hid (Z.cmpv_gt h)
    have e2 : decide (x < y) = false := by simp; omega
    have e3 : decide (y < x) = true := by simp [h]
    clear h
    go_enter Tryd.func62, Tryd.ntmps62
    go_wp2
    go_ret
    exact ⟨ret_int hr.out.symm, rfl⟩
theorem cmpU_c (x y : Int) (w : World) : Calls Tryd.prog 63 #[.int .u32 x, .int .u32 y] w (fun e w' => e = .returned (.int .i64 (cmpv x y)) ∧ w = w') := by
  have e0 : (x != x) = false := by simp
  have e1 : (y != y) = false := by simp
  rcases Int.lt_trichotomy x y with h | h | h
  · have hr := Lib.hid (Z.cmpv_lt h)
    have e2 : decide (x < y) = true := by simp [h]
    clear h
    go_enter Tryd.func63, Tryd.ntmps63
    go_wp2
    go_ret
    exact ⟨ret_int hr.out.symm, rfl⟩
  · have hr := Lib.hid (Z.cmpv_eq h)
    have e2 : decide (x < y) = false := by simp [h]
    have e3 : decide (y < x) = false := by simp [h]
    clear h
    go_enter Tryd.func63, Tryd.ntmps63
    go_wp2
    go_ret
    exact ⟨ret_int hr.out.symm, rfl⟩
  · have hr := Lib.hid (Z.cmpv_gt h)
    have e2 : decide (x < y) = false := by simp; omega
    have e3 : decide (y < x) = true := by simp [h]
    clear h
    go_enter Tryd.func63, Tryd.ntmps63
    go_wp2
    go_ret
    exact ⟨ret_int hr.out.symm, rfl⟩
theorem compare_c (s t : Value) (L M : List Int) (w : World) (hs : Sl .u32 w s L) (ht : Sl .u32 w t M) (hL : Lim L) (hM : Lim M) (nL : Nz L) (nM : Nz M) (bL : L.length ≤ 1000000000) (bM : M.length ≤ 1000000000) :
    Calls Tryd.prog 52 #[s, t] w (RetQ w (.int .i64 (cmpv (lv L) (lv M)))) := by
  obtain ⟨n, hn⟩ : ∃ n, n = L.length := ⟨_, rfl⟩
  obtain ⟨m, hm⟩ : ∃ m, m = M.length := ⟨_, rfl⟩
  obtain ⟨A, c, rfl, hc, hcL⟩ := hs.open_
  obtain ⟨B, d, rfl, hd, hcM⟩ := ht.open_
  rw [← hn] at bL hc hcL ⊢
  rw [← hm] at bM hd hcM ⊢
  obtain ⟨r, hr⟩ : ∃ r, r = cmpv (lv L) (lv M) := ⟨_, rfl⟩
  rw [← hr]
  have HR := Lib.hid hr
  have HN := Lib.hid hn
  have HM := Lib.hid hm
  have CL := Lib.hid hcL
  have CM := Lib.hid hcM
  have DL := Lib.hid hL
  have DM := Lib.hid hM
  have NL := Lib.hid nL
  have NM := Lib.hid nM
  clear hr hn hm hcL hcM hL hM nL nM hs ht
  by_cases h0 : n = m
  · subst h0
    go_enter Tryd.func52, Tryd.ntmps52
    go_wp2
    go_loopw [5] (fun i wr => ∃ k : Nat, k ≤ n ∧ i = .int .i64 ((k : Int) - 1) ∧ (∃ q, wr = w.drewN q) ∧ Hid (L.drop k = M.drop k)) (fun i _ => (intOf i + 1).toNat)
    case atStart => exact ⟨n, Nat.le_refl _, rfl, ⟨0, rfl⟩, by unfold Hid; rw [HN.out, List.drop_length, ← HN.out, HM.out, List.drop_length]⟩
    case round =>
      obtain ⟨k, hk, rfl, ⟨q, rfl⟩, hd⟩ := hrel
      have K1 : (k : Int) ≤ 1000000000 := by omega
      by_cases hk0 : 0 < k
      · obtain ⟨ad, rfl, hb1, hx⟩ := CL.out (k - 1) (by omega)
        obtain ⟨ad2, rfl, hb2, hy⟩ := CM.out (k - 1) (by omega)
        obtain ⟨x, hX⟩ : ∃ x, L.getD (k - 1) 0 = x := ⟨_, rfl⟩
        obtain ⟨y, hY⟩ : ∃ y, M.getD (k - 1) 0 = y := ⟨_, rfl⟩
        rw [hX] at hx
        rw [hY] at hy
        have HX := Lib.hid hX
        have HY := Lib.hid hY
        have i0 : (0 : Int) ≤ (k : Int) - 1 := by omega
        have i1 : (k : Int) - 1 < (n : Int) := by omega
        have i3 : ((k : Int) - 1).toNat = k - 1 := by omega
        have kk : k - 1 + 1 = k := by omega
        clear hX hY hb1 hb2
        by_cases hxy : x = y
        · have e1 : (x != y) = false := by simp [hxy]
          have HD2 := Lib.hid (drop_same (k := k - 1) (by rw [← HN.out]; omega) (by rw [← HM.out]; omega) (by rw [kk]; exact hd.out) (by rw [HX.out, HY.out]; exact hxy))
          clear hxy kk
          go_wp2
          go_region
          go_wp2
          exact ⟨⟨k - 1, by omega, by simp; omega, ⟨q + 1, rfl⟩, HD2.out⟩, by simp only [intOf]; omega⟩
        · have e1 : (x != y) = true := by simp [hxy]
          have CU : Hid (∀ w', Calls Tryd.prog 63 #[.int .u32 x, .int .u32 y] w' (fun e w'' => e = .returned (.int .i64 (cmpv x y)) ∧ w'' = w')) := Lib.hid fun w' => (cmpU_c x y w').mono fun e w'' h => ⟨h.1, h.2.symm⟩
          have hres : cmpv x y = r := by
            rw [HR.out]
            rcases Int.lt_or_lt_of_ne hxy with h | h
            · rw [Z.cmpv_lt h, Z.cmpv_lt (lv_at_lt (k := k - 1) DL.out DM.out (by rw [← HN.out]; omega) (by rw [← HM.out]; omega) (by rw [kk]; exact hd.out) (by rw [HX.out, HY.out]; exact h))]
            · rw [Z.cmpv_gt h, Z.cmpv_gt (lv_at_lt (k := k - 1) DM.out DL.out (by rw [← HM.out]; omega) (by rw [← HN.out]; omega) (by rw [kk]; exact hd.out.symm) (by rw [HX.out, HY.out]; exact h))]
          have HE := Lib.hid hres
          clear hxy kk hres
          go_wp2
          go_region
          go_wp2
          go_quiet ((go_at_call 63; exact (CU.out _).mono fun e w'' h => ⟨h.1, _, h.2⟩))
          go_wp2
          go_ret
          refine ⟨ret_int HE.out, _, World.drewN_drewN _ _ _⟩
      · obtain rfl : k = 0 := by omega
        have HE : r = 0 := by
          rw [HR.out]
          have := hd.out
          simp only [List.drop_zero] at this
          exact Z.cmpv_eq (by rw [this])
        have HE := Lib.hid HE
        go_wp2
        go_ret
        exact ⟨ret_int HE.out.symm, q, rfl⟩
  · have e1 : ((n : Int) != (m : Int)) = true := by rw [bne_iff_ne]; omega
    have CI := Lib.hid (cmpInt_c (n : Int) (m : Int))
    have hres : cmpv (n : Int) (m : Int) = r := by
      rw [HR.out]
      rcases Nat.lt_or_gt_of_ne h0 with h | h
      · rw [Z.cmpv_lt (by omega), Z.cmpv_lt (lv_len DL.out DM.out NM.out (by rw [← HN.out, ← HM.out]; exact h))]
      · rw [Z.cmpv_gt (by omega), Z.cmpv_gt (lv_len DM.out DL.out NL.out (by rw [← HN.out, ← HM.out]; exact h))]
    have HE := Lib.hid hres
    clear h0 hres
    go_enter Tryd.func52, Tryd.ntmps52
    go_wp2_with (first | (go_at_call 62; (with_reducible refine (CI.out _).mono ?_); rintro e w' ⟨rfl, rfl⟩))
    go_ret
    exact ⟨ret_int HE.out, 0, rfl⟩
end NC
end Go.Proofs.YtjihapnplfdmmaaDoor
