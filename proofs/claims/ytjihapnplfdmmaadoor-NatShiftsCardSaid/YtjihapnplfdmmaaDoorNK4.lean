/-
  NatShifts: the walk.
-/
import Derived.Test.YtjihapnplfdmmaaDoorNK3
import Derived.Test.YtjihapnplfdmmaaDoorN20
namespace Go.Proofs.YtjihapnplfdmmaaDoor
open Go.RowKit
set_option linter.unusedVariables false
namespace NK
open L NC
open Z (Nz Tz cmpv)
theorem two_mono {a b : Nat} (h : a ≤ b) : (2 : Int) ^ a ≤ 2 ^ b := by
  obtain ⟨d, rfl⟩ : ∃ d, b = a + d := ⟨b - a, by omega⟩
  rw [Int.pow_add]
  have h1 := two_pos a
  have h2 := two_pos d
  have := Int.mul_le_mul_of_nonneg_left (show (1 : Int) ≤ 2 ^ d by omega) (Int.le_of_lt h1)
  omega
theorem two_lt {a b : Nat} (h : (2 : Int) ^ a < 2 ^ b) : a < b := by
  rcases Nat.lt_or_ge a b with h1 | h1
  · exact h1
  · have := two_mono h1; omega
theorem bits_shift {z : Int} {n k m : Nat} (h0 : 0 < z) (h1 : z < 2 ^ k ∧ (k = 0 ∨ 2 ^ (k - 1) ≤ z)) (h2 : z * 2 ^ n < 2 ^ m ∧ (m = 0 ∨ 2 ^ (m - 1) ≤ z * 2 ^ n)) : m = k + n := by
  have hn := two_pos n
  have hx : 0 < z * 2 ^ n := Int.mul_pos h0 hn
  have hk : k ≠ 0 := by intro e; rw [e] at h1; simp at h1; omega
  have hm : m ≠ 0 := by intro e; rw [e] at h2; simp at h2; omega
  have g1 : 2 ^ (k - 1 + n) ≤ z * 2 ^ n := by
    rw [Int.pow_add]
    exact Int.mul_le_mul_of_nonneg_right (h1.2.resolve_left hk) (Int.le_of_lt hn)
  have g2 : z * 2 ^ n < 2 ^ (k + n) := by
    rw [Int.pow_add]
    exact Int.mul_lt_mul_of_pos_right h1.1 hn
  have g3 := two_lt (Int.lt_of_le_of_lt g1 h2.1)
  have g4 := two_lt (Int.lt_of_le_of_lt (h2.2.resolve_left hm) g2)
  omega
theorem shift_small {a : Int} {n : Nat} (ha : a < 4294967296 ^ 400) (h0 : 0 ≤ a) (hn : n ≤ 20001) : a * 2 ^ n < big3 := by
  have h1 : (2 : Int) ^ n ≤ 4294967296 ^ 626 := by rw [pow_two]; exact two_mono (by omega)
  have h2 : a * 2 ^ n ≤ 4294967296 ^ 400 * 4294967296 ^ 626 := Int.mul_le_mul (Int.le_of_lt ha) h1 (Int.le_of_lt (two_pos n)) (Int.le_of_lt (pow_pos _))
  rw [← Int.pow_add] at h2
  have h3 : (4294967296 : Int) ^ 1027 ≤ 4294967296 ^ 3000 := pow_mono (by decide)
  have h4 : (4294967296 : Int) ^ 1027 = 4294967296 ^ (400 + 626) * 4294967296 := Int.pow_succ _ _
  have h5 := pow_pos (400 + 626)
  unfold big3
  generalize (4294967296 : Int) ^ 3000 = c3000 at *
  generalize (4294967296 : Int) ^ 1027 = c1027 at *
  generalize (4294967296 : Int) ^ (400 + 626) = c1026 at *
  omega
theorem sh_err {u : Value} {er z n : Int} {w : World} (h : PV w u er z) (he : er ≠ 0) : Calls Tryd.prog 9 #[u, .int .i64 n] w (RetSh w er 0 false) := by
  obtain ⟨l, h1, h2, h3, h4, h5⟩ := h
  have := ShiftErr_c u l n w h1 h3 (by rw [h4]; exact he)
  rwa [h4] at this
theorem sh_far {u : Value} {z n : Int} {w : World} (h : PV w u 0 z) (hn : n < -20000 ∨ 20000 < n) : Calls Tryd.prog 9 #[u, .int .i64 n] w (RetSh w 1 0 false) := by
  obtain ⟨l, h1, h2, h3, h4, h5⟩ := h
  exact ShiftFar_c u l n w h1 h3 h4 hn
theorem sh_up {u : Value} {z : Int} {w : World} (h : PV w u 0 z) (n : Nat) (hn : n ≤ 20000) : Calls Tryd.prog 9 #[u, .int .i64 n] w (RetSh w 0 (z * 2 ^ n) false) := by
  obtain ⟨l, h1, h2, h3, h4, h5⟩ := h
  have := ShiftUp_c u l n w h1 h2 h4 hn
  rwa [h5] at this
theorem sh_down {u : Value} {z : Int} {w : World} (h : PV w u 0 z) (n : Nat) (h0 : 0 < n) (hn : n ≤ 20000) (hT : TabD w) : Calls Tryd.prog 9 #[u, .int .i64 (-(n : Int))] w (RetSh w 0 (z / 2 ^ n) (decide (z % 2 ^ n ≠ 0))) := by
  obtain ⟨l, h1, h2, h3, h4, h5⟩ := h
  have := ShiftDown_c u l n w h1 h2 h4 hn h0 hT
  rwa [h5] at this
theorem sh_back {u : Value} {z : Int} {w : World} (n : Nat) (h : PV w u 0 (z * 2 ^ n)) (hn : n ≤ 20000) (hT : TabD w) : Calls Tryd.prog 9 #[u, .int .i64 (-(n : Int))] w (RetSh w 0 z false) := by
  by_cases h0 : n = 0
  · subst h0
    have := sh_up h 0 (by omega)
    simpa using this
  · have := sh_down h n (by omega) hn hT
    rw [Int.mul_ediv_cancel _ (by have := two_pos n; omega), Int.mul_emod_left] at this
    simpa using this
theorem bits_p {u : Value} {er z : Int} {w : World} (h : PV w u er z) : Calls Tryd.prog 8 #[u] w (RetBits w er z) := by
  obtain ⟨l, h1, h2, h3, h4, h5⟩ := h
  have := Bits_c u l w h1 h3 h2
  rwa [h4, h5] at this
set_option maxRecDepth 100000 in
set_option maxHeartbeats 4000000 in
theorem shifts_A (A : Option Addr) (l c : Nat) (n E : Int) (w : World) (hE : E ≠ 0) (SH : Calls Tryd.prog 9 #[.slice A l c, .int .i64 n] w (RetSh w E 0 false)) :
    Calls Tryd.prog 6 #[.slice A l c, .int .i64 n] w fun e w' => e = .returned (.bool true) ∧ Below w.heap.size w w' := by
  have LV := Lib.hid lives_c
  have SH := Lib.hid SH
  have h1 : (E == 0) = false := by simp [hE]
  have h2 : (E != 0) = true := by simp [hE]
  clear hE
  go_enter Tryd.func6, Tryd.ntmps6
  go_wp2_with (first
    | (go_at_call 9; (with_reducible refine (SH.out).mono ?_); rintro e w1 ⟨A1, n1, c1, rfl, hv1, b1⟩; obtain rfl := NV.zero hv1)
    | (go_at_call 25; (with_reducible refine (LV.out w1).mono ?_); rintro e w2 ⟨rfl, b2⟩; have B2 := b1.trans (b2.mono b1.size))
    | (go_at_call 25; (with_reducible refine (LV.out w2).mono ?_); rintro e w3 ⟨rfl, b3⟩; have B3 := B2.trans (b3.mono B2.size)))
  go_ret
  exact ⟨rfl, B3⟩
set_option maxRecDepth 100000 in
set_option maxHeartbeats 4000000 in
theorem shifts_B (A : Option Addr) (l c : Nat) (n z : Int) (b : Bool) (w : World) (hn : n < 0) (SH : Calls Tryd.prog 9 #[.slice A l c, .int .i64 n] w (RetSh w 0 z b)) :
    Calls Tryd.prog 6 #[.slice A l c, .int .i64 n] w fun e w' => e = .returned (.bool true) ∧ Below w.heap.size w w' := by
  have LV := Lib.hid lives_c
  have SH := Lib.hid SH
  go_enter Tryd.func6, Tryd.ntmps6
  go_wp2_with (first
    | (go_at_call 9; (with_reducible refine (SH.out).mono ?_); rintro e w1 ⟨A1, n1, c1, rfl, hv1, b1⟩)
    | (go_at_call 25; (with_reducible refine (LV.out w1).mono ?_); rintro e w2 ⟨rfl, b2⟩; have B2 := b1.trans (b2.mono b1.size))
    | (go_at_call 25; (with_reducible refine (LV.out w2).mono ?_); rintro e w3 ⟨rfl, b3⟩; have B3 := B2.trans (b3.mono B2.size)))
  go_ret
  exact ⟨rfl, B3⟩
set_option maxRecDepth 100000 in
set_option maxHeartbeats 4000000 in
/-- shifted up beyond the limbs that a number may have -/
theorem shifts_C (A : Option Addr) (l c : Nat) (n : Nat) (a X F J zz : Int) (w : World) (hn : (n : Int) ≤ 20000) (hF : F ≠ 0) (hX : erz X = F)
    (HA : Hid (∀ W, Below w.heap.size w W → PV W (.slice A l c) 0 a))
    (SH : Hid (Calls Tryd.prog 9 #[.slice A l c, .int .i64 n] w (RetSh w 0 X false)))
    (hb : X < big3)
    (SZ : Hid (∀ W, Below w.heap.size w W → Calls Tryd.prog 9 #[.slice A l c, .int .i64 ((n : Int) + 1)] W (RetSh W J zz false))) :
    Calls Tryd.prog 6 #[.slice A l c, .int .i64 n] w fun e w' => e = .returned (.bool true) ∧ Below w.heap.size w w' := by
  have LV := Lib.hid lives_c
  have h1 : (F == 0) = false := by simp [hF]
  have h2 : (F != 0) = true := by simp [hF]
  have hn0 : ¬ (n : Int) < 0 := by omega
  have HF := Lib.hid hF
  have HX := Lib.hid hX
  have AD : Hid (∀ W v, PV W v F X → Calls Tryd.prog 24 #[v, v] W (RetP W F 0)) := fun W v h => by
    have := Add_p h h
    have e : ee F F = F := by unfold ee; rw [if_pos hF]
    rwa [e, if_neg hF] at this
  have SB : Hid (∀ W v, PV W v F X → Calls Tryd.prog 9 #[v, .int .i64 (-(n : Int))] W (RetSh W F 0 false)) := fun W v h => sh_err h hF
  have HB := Lib.hid hb
  clear hF hX hb
  go_enter Tryd.func6, Tryd.ntmps6
  go_wp2_with (first
    | (go_at_call 9; (with_reducible refine (SH.out).mono ?_); rintro e w1 ⟨A1, n1, c1, rfl, hv1, b1⟩; have hp1 := hv1.pv HB.out; rw [HX.out] at hp1)
    | (go_at_call 25; (with_reducible refine (LV.out w1).mono ?_); rintro e w2 ⟨rfl, b2⟩; have B2 := b1.trans (b2.mono b1.size); have P2 := hp1.below b2)
    | (go_at_call 9; (with_reducible refine (SB.out w2 _ P2).mono ?_); rintro e w3 ⟨A3, n3, c3, rfl, hv3, b3⟩; have B3 := B2.trans (b3.mono B2.size); have P3 := P2.below b3)
    | (go_at_call 8; (with_reducible refine (bits_p (HA.out w3 B3)).mono ?_); rintro e w4 ⟨k, rfl, hk, hk1, hk2, rfl⟩)
    | (go_at_call 8; (with_reducible refine (bits_p P3).mono ?_); rintro e w5 ⟨m, rfl, hm, hm1, hm2, rfl⟩)
    | (go_at_call 27; (with_reducible refine (ok2_no w3 0 F (.inr HF.out)).mono ?_); rintro e w6 ⟨rfl, hw6⟩; have b6 : Below w3.heap.size w3 w6 := (by rw [← hw6]; exact lit_below _ _); clear hw6; have B6 := B3.trans (b6.mono B3.size); have P6 := P3.below b6)
    | (go_at_call 24; (with_reducible refine (AD.out w6 _ P6).mono ?_); rintro e w7 ⟨A7, n7, c7, rfl, hp7, hv7, b7⟩; have B7 := B6.trans (b7.mono B6.size))
    | (go_at_call 9; (with_reducible refine (SZ.out w7 B7).mono ?_); rintro e w8 ⟨A8, n8, c8, rfl, hv8, b8⟩; have B8 := B7.trans (b8.mono B7.size))
    | (go_at_call 27; (with_reducible refine (ok2_no w8 F J (.inl HF.out)).mono ?_); rintro e w9 ⟨rfl, hw9⟩; have b9 : Below w8.heap.size w8 w9 := (by rw [← hw9]; exact lit_below _ _); clear hw9; have B9 := B8.trans (b9.mono B8.size)))
  go_ret
  exact ⟨rfl, B9⟩
set_option maxRecDepth 100000 in
set_option maxHeartbeats 8000000 in
/-- shifted up, and still a number -/
theorem shifts_D (A : Option Addr) (l c : Nat) (n : Nat) (a X J zz : Int) (w : World) (hn : (n : Int) ≤ 20000) (hX : erz X = 0) (hJ : (J = 0 ∧ zz = X + X) ∨ J = 1)
    (hl : l = 0 ∨ 0 < a ∧ 0 < (l : Int))
    (HA : Hid (∀ W, Below w.heap.size w W → PV W (.slice A l c) 0 a))
    (SH : Hid (Calls Tryd.prog 9 #[.slice A l c, .int .i64 n] w (RetSh w 0 X false)))
    (hb : X < big3) (hb2 : X + X < big3) (ha : a < big3)
    (MK : Hid (∀ k m : Nat, 0 < a → (a < 2 ^ k ∧ (k = 0 ∨ 2 ^ (k - 1) ≤ a)) → (X < 2 ^ m ∧ (m = 0 ∨ 2 ^ (m - 1) ≤ X)) → m = k + n))
    (SB : Hid (∀ W v, Below w.heap.size w W → PV W v 0 X → Calls Tryd.prog 9 #[v, .int .i64 (-(n : Int))] W (RetSh W 0 a false)))
    (SZ : Hid (∀ W, Below w.heap.size w W → Calls Tryd.prog 9 #[.slice A l c, .int .i64 ((n : Int) + 1)] W (RetSh W J zz false))) :
    Calls Tryd.prog 6 #[.slice A l c, .int .i64 n] w fun e w' => e = .returned (.bool true) ∧ Below w.heap.size w w' := by
  have LV := Lib.hid lives_c
  have hn0 : ¬ (n : Int) < 0 := by omega
  have HX := Lib.hid hX
  have AD : Hid (∀ W v, PV W v 0 X → Calls Tryd.prog 24 #[v, v] W (RetP W 0 (X + X))) := fun W v h => Add_0 h h
  have HB := Lib.hid hb
  have HB2 := Lib.hid hb2
  have HAB := Lib.hid ha
  clear hX hb hb2 ha
  rcases hJ with ⟨rfl, rfl⟩ | rfl <;> rcases hl with rfl | ⟨h0, hl⟩
  all_goals try have H0 := Lib.hid h0
  all_goals try clear h0
  all_goals
    go_enter Tryd.func6, Tryd.ntmps6
    go_wp2_with (first
      | (go_at_call 9; (with_reducible refine (SH.out).mono ?_); rintro e w1 ⟨A1, n1, c1, rfl, hv1, b1⟩; have hp1 := hv1.pv HB.out; rw [HX.out] at hp1)
      | (go_at_call 25; (with_reducible refine (LV.out w1).mono ?_); rintro e w2 ⟨rfl, b2⟩; have B2 := b1.trans (b2.mono b1.size); have P2 := hp1.below b2)
      | (go_at_call 9; (with_reducible refine (SB.out w2 _ B2 P2).mono ?_); rintro e w3 ⟨A3, n3, c3, rfl, hv3, b3⟩; have B3 := B2.trans (b3.mono B2.size); have P3 := P2.below b3)
      | (go_at_call 8; (with_reducible refine (bits_p (HA.out w3 B3)).mono ?_); rintro e w4 ⟨k, rfl, hk, hk1, hk2, rfl⟩)
      | (go_at_call 8; (with_reducible refine (bits_p P3).mono ?_); rintro e w5 ⟨m, rfl, hm, hm1, hm2, rfl⟩; (try (have hmk : m = k + n := MK.out k m H0.out (hk1.out (by first | trivial | rfl)) (hm1.out (by first | trivial | rfl)); subst hmk)))
      | (go_at_call 26; (with_reducible refine (equal_gen (W := w3) hv3 (HA.out w3 B3).nv rfl HAB.out).mono ?_); rintro e w6 ⟨rfl, k6, hw6⟩; have b6 : Below w3.heap.size w3 w6 := (by rw [hw6]; exact bself _ _); clear hw6; have B6 := B3.trans (b6.mono B3.size); have P6 := P3.below b6)
      | (go_at_call 27; (with_reducible refine (ok2_yes w6).mono ?_); rintro e w7 ⟨rfl, hw7⟩; have b7 : Below w6.heap.size w6 w7 := (by rw [← hw7]; exact lit_below _ _); clear hw7; have B7 := B6.trans (b7.mono B6.size); have P7 := P6.below b7)
      | (go_at_call 24; (with_reducible refine (AD.out w7 _ P7).mono ?_); rintro e w8 ⟨A8, n8, c8, rfl, hp8, hv8, b8⟩; have B8 := B7.trans (b8.mono B7.size))
      | (go_at_call 9; (with_reducible refine (SZ.out w8 B8).mono ?_); rintro e w9 ⟨A9, n9, c9, rfl, hv9, b9⟩; have B9 := B8.trans (b9.mono B8.size); have V9 := hv8.below b9)
      | (go_at_call 27; (with_reducible refine (ok2_yes w9).mono ?_); rintro e w10 ⟨rfl, hw10⟩; have b10 : Below w9.heap.size w9 w10 := (by rw [← hw10]; exact lit_below _ _); clear hw10; have B10 := B9.trans (b10.mono B9.size); have V10 := V9.below b10; have Z10 := hv9.below b10)
      | (go_at_call 27; (with_reducible refine (ok2_no w9 0 1 (.inr (by decide))).mono ?_); rintro e w10 ⟨rfl, hw10⟩; have b10 : Below w9.heap.size w9 w10 := (by rw [← hw10]; exact lit_below _ _); clear hw10; have B10 := B9.trans (b10.mono B9.size))
      | (go_at_call 26; (with_reducible refine (equal_gen (W := w10) V10 Z10 rfl HB2.out).mono ?_); rintro e w11 ⟨rfl, k11, rfl⟩))
    go_ret
    exact ⟨rfl, by first | exact B10 | exact bdrew B10 _⟩
theorem shifts_c (u : Value) (e1 a n : Int) (w : World) (hu : PV w u e1 a) (fu : ∃ A n c, u = .slice A n c) (hT : TabD w) :
    Calls Tryd.prog 6 #[u, .int .i64 n] w fun e w' => e = .returned (.bool true) ∧ Below w.heap.size w w' := by
  obtain ⟨A, l, c, rfl⟩ := fu
  by_cases h : e1 = 0
  · subst h
    by_cases hf : n < -20000 ∨ 20000 < n
    · exact shifts_A A l c n 1 w (by decide) (sh_far hu hf)
    · by_cases hn : n < 0
      · obtain ⟨k, rfl⟩ : ∃ k : Nat, n = -(k : Int) := ⟨(-n).toNat, by omega⟩
        exact shifts_B A l c _ _ _ w hn (sh_down hu k (by omega) (by omega) hT)
      · obtain ⟨k, rfl⟩ : ∃ k : Nat, n = (k : Int) := ⟨n.toNat, by omega⟩
        have sa := hu.small
        have a4 := sa.2 rfl
        have hk : k ≤ 20000 := by omega
        have hb := shift_small a4 sa.1 (show k ≤ 20001 by omega)
        have hb2 := shift_small a4 sa.1 (show k + 1 ≤ 20001 by omega)
        have e2 : a * 2 ^ (k + 1) = a * 2 ^ k + a * 2 ^ k := by rw [Int.pow_succ]; grind
        rw [e2] at hb2
        have HA : Hid (∀ W, Below w.heap.size w W → PV W (.slice A l c) 0 a) := fun W h => hu.below h
        have SH := Lib.hid (sh_up hu k hk)
        have SZ : ∃ J zz, ((J = 0 ∧ zz = a * 2 ^ k + a * 2 ^ k) ∨ J = 1) ∧ Hid (∀ W, Below w.heap.size w W → Calls Tryd.prog 9 #[.slice A l c, .int .i64 ((k : Int) + 1)] W (RetSh W J zz false)) := by
          by_cases h2 : k + 1 ≤ 20000
          · refine ⟨0, _, .inl ⟨rfl, rfl⟩, fun W hW => ?_⟩
            have := sh_up (hu.below hW) (k + 1) h2
            rw [e2, show ((k + 1 : Nat) : Int) = (k : Int) + 1 by omega] at this
            exact this
          · exact ⟨1, 0, .inr rfl, fun W hW => sh_far (hu.below hW) (by omega)⟩
        obtain ⟨J, zz, hJ, SZ⟩ := SZ
        by_cases hX : erz (a * 2 ^ k) = 0
        · refine shifts_D A l c k a _ J zz w (by omega) hX hJ ?_ HA SH hb hb2 (big3_bds a4 a4 sa.1 sa.1).2.2.1 (fun i m h0 h1 h2 => bits_shift h0 h1 h2) (fun W v hW hv => sh_back k hv hk (hT.below hW)) SZ
          by_cases h0 : a = 0
          · rw [h0] at hu
            exact .inl (NV.zero hu.nv)
          · right
            refine ⟨by have := sa.1; omega, ?_⟩
            rcases Nat.eq_zero_or_pos l with e | e
            · exfalso
              obtain ⟨L, h1, h2, h3, h4⟩ := hu.nv
              have h5 := h1.len_.1
              rw [e] at h5
              have := List.eq_nil_of_length_eq_zero h5.symm
              rw [this] at h4
              exact h0 h4.symm
            · omega
        · exact shifts_C A l c k a _ _ J zz w (by omega) hX rfl HA SH hb SZ
  · exact shifts_A A l c n e1 w h (sh_err hu h)
end NK
end Go.Proofs.YtjihapnplfdmmaaDoor
