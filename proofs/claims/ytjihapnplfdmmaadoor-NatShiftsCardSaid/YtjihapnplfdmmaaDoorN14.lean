/-
  Package nat: Bits, Root.
-/
import Derived.Test.YtjihapnplfdmmaaDoorN13
namespace Go.Proofs.YtjihapnplfdmmaaDoor
open Go.RowKit
set_option linter.unusedVariables false
namespace NC
open L
open Z (Nz Tz cmpv)
/-- how many bits -/
def RetBits (w : World) (er z : Int) (e : Ending) (w' : World) : Prop := ∃ n : Nat, e = .returned (.tuple #[.int .i64 n, .int .i64 er]) ∧ n ≤ 12800 ∧ Hid (er = 0 → z < 2 ^ n ∧ (n = 0 ∨ 2 ^ (n - 1) ≤ z)) ∧ Hid (er ≠ 0 → n = 0) ∧ w = w'
theorem Bits_c (v : Value) (l : List Int) (w : World) (hs : Sl .u32 w v l) (hl : l.length ≤ 9223372036854775807) (Ll : Lim l) : Calls Tryd.prog 8 #[v] w (RetBits w (chk l) (lv l)) := by
  have C := Lib.hid (Check_c v l w hs hl)
  obtain ⟨A, c, rfl, hc⟩ := hs.form
  obtain ⟨r, hr⟩ : ∃ r, r = chk l := ⟨_, rfl⟩
  rw [← hr] at C ⊢
  by_cases h : r = 0
  · have h1 := chk_ok.1 (hr.symm.trans h)
    by_cases hne : l = []
    · subst hne
      have e0 : (([] : List Int).length : Int) = 0 := by simp
      clear hs hl Ll hr h1
      subst h
      simp only [List.length_nil] at C hc ⊢
      go_enter Tryd.func8, Tryd.ntmps8
      go_wp2_with (first | (go_at_call 32; (with_reducible refine (C.out).mono ?_); rintro e w' ⟨rfl, rfl⟩))
      go_ret2
      exact ⟨0, rfl, by omega, fun _ => ⟨by simp [lv], .inl rfl⟩, fun h => rfl, rfl⟩
    · obtain ⟨m, hm⟩ : ∃ m, l.length = m + 1 := ⟨l.length - 1, by have := List.length_pos_iff.2 hne; omega⟩
      obtain ⟨ad, c', e, hc', _, hcell⟩ := hs.at_ m (by omega)
      injection e with e1 e2 e3
      subst e1
      have htop : 0 < l.getD m 0 := by
        have h2 := h1.2 hne
        rw [List.getLast_eq_getElem] at h2
        have h3 : l.getD m 0 = l[l.length - 1]'(by omega) := by
          rw [List.getD_eq_getElem?_getD, List.getElem?_eq_getElem (by omega)]
          simp [hm]
        have := Ll.at_ m
        rw [h3] at this ⊢
        omega
      have bt := Ll.at_ m
      obtain ⟨t1, t2⟩ := top_bd Ll hm
      obtain ⟨n, hn1, hn2, hn3, hn4⟩ := bitLen_bd (l.getD m 0) htop (by omega)
      have LN := Len32_c (l.getD m 0) w (by omega) (by omega)
      rw [hn1] at LN
      have LN := Lib.hid LN
      have hp := pow_pos m
      have b1 : lv l < 2 ^ (32 * m + n + 1) := by
        rw [show 32 * m + n + 1 = 32 * m + (n + 1) by omega, Int.pow_add, ← pow_two]
        exact Int.lt_of_lt_of_le t2 (Int.mul_le_mul_of_nonneg_left (by omega) (Int.le_of_lt hp))
      have b2 : 2 ^ (32 * m + n) ≤ lv l := by
        rw [Int.pow_add, ← pow_two]
        exact Int.le_trans (Int.mul_le_mul_of_nonneg_left hn3 (Int.le_of_lt hp)) t1
      have HB := Lib.hid (And.intro b1 b2)
      have hm4 : m + 1 ≤ 400 := by have := h1.1; omega
      rw [hm] at hc C ⊢
      generalize l.getD m 0 = tp at *
      clear hs hl Ll hr h1 hne hm htop t1 t2 hn1 hn3 hn4 b1 b2 hp e2 e3 hc'
      subst h
      have e1 : ((m : Int) + 1 == 0) = false := by simp; omega
      go_enter Tryd.func8, Tryd.ntmps8
      go_wp2_with (first | (go_at_call 32; (with_reducible refine (C.out).mono ?_); rintro e w' ⟨rfl, rfl⟩) | (go_at_call 33; (with_reducible refine (LN.out).mono ?_); rintro e w' ⟨rfl, rfl⟩))
      go_ret2
      refine ⟨32 * m + n + 1, ?_, by omega, fun _ => ⟨HB.out.1, .inr (by simpa using HB.out.2)⟩, fun h => absurd rfl h, rfl⟩
      have e5 : ((32 * m + n + 1 : Nat) : Int) = (m : Int) * 32 + ((n : Int) + 1) := by omega
      rw [e5]
      rfl
  · have e1 : (r != 0) = true := by simp [h]
    clear hs hl Ll hr
    have H := Lib.hid h
    clear h
    go_enter Tryd.func8, Tryd.ntmps8
    go_wp2_with (first | (go_at_call 32; (with_reducible refine (C.out).mono ?_); rintro e w' ⟨rfl, rfl⟩))
    go_ret2
    exact ⟨0, rfl, by omega, fun h => absurd h H.out, fun _ => rfl, rfl⟩
/-- a root, and whether something is left -/
def RetRt (w : World) (er z : Int) (e : Ending) (w' : World) : Prop :=
  ∃ A n c b R, e = .returned (.tuple #[.slice A n c, .bool b, .int .i64 er]) ∧ NV w' (.slice A n c) R ∧ Below w.heap.size w w' ∧ Hid (er = 0 → R * R ≤ z ∧ z < (R + 1) * (R + 1) ∧ 0 ≤ R ∧ b = decide (R * R ≠ z)) ∧ Hid (er ≠ 0 → R = 0 ∧ b = false)
theorem Root_c (v : Value) (l : List Int) (w : World) (hs : Sl .u32 w v l) (hl : l.length ≤ 9223372036854775807) (Ll : Lim l) : Calls Tryd.prog 10 #[v] w (RetRt w (chk l) (lv l)) := by
  have C := Lib.hid (Bits_c v l w hs hl Ll)
  have HSQ : Hid (chk l = 0 → ∀ n : Nat, lv l < 2 ^ n → (n = 0 ∨ 2 ^ (n - 1) ≤ lv l) → n ≤ 12800 → Calls Tryd.prog 37 #[v, .int .i64 n] w (RetSq w (lv l))) := fun h n h1 h2 h3 =>
    squareRoot_c v l n w hs Ll (chk_ok.1 h).1 h1 h2 h3
  obtain ⟨A, c, rfl, hc⟩ := hs.form
  obtain ⟨r, hr⟩ : ∃ r, r = chk l := ⟨_, rfl⟩
  rw [← hr] at C HSQ ⊢
  generalize lv l = z at *
  generalize l.length = x at *
  clear hs hl Ll hr
  by_cases h : r = 0
  · subst h
    go_enter Tryd.func10, Tryd.ntmps10
    go_wp2_with (first | (go_at_call 8; (with_reducible refine (C.out).mono ?_); rintro e w1 ⟨n, rfl, hn, h1, h2, rfl⟩ ; have SQ := Lib.hid (HSQ.out rfl n (h1.out rfl).1 (h1.out rfl).2 hn)) | (go_at_call 37; (with_reducible refine (SQ.out).mono ?_); rintro e w2 ⟨A1, n1, c1, A2, n2, c2, R, re, rfl, hv1, hv2, hq, hb⟩))
    go_ret3
    refine ⟨A1, n1, c1, _, R, rfl, hv1, hb, fun _ => ?_, fun h => absurd rfl h⟩
    obtain ⟨q1, q2, q3, q4⟩ := hq.out
    refine ⟨by omega, by rw [← q1]; grind, q4, ?_⟩
    by_cases hre : re = 0
    · have e2 : n2 = 0 := by
        obtain ⟨L, s1, s2, s3, s4⟩ := hv2
        have e := lv_inj s2 Lim.nil s3 (by intro h; exact absurd rfl h) (s4.trans (hre.trans (show (0 : Int) = lv [] from rfl)))
        have := s1.len_.1
        rw [this, e]; rfl
      subst e2
      have : R * R = z := by omega
      simp [this]
    · have e2 : 0 < n2 := by
        obtain ⟨L, s1, s2, s3, s4⟩ := hv2
        rcases Nat.eq_zero_or_pos n2 with h | h
        · exfalso
          have h5 := s1.len_.1
          rw [h] at h5
          have := List.eq_nil_of_length_eq_zero h5.symm
          rw [this] at s4
          exact hre s4.symm
        · exact h
      have : R * R ≠ z := by omega
      simp [this, e2]
  · have e1 : (r != 0) = true := by simp [h]
    have H := Lib.hid h
    clear h
    go_enter Tryd.func10, Tryd.ntmps10
    go_wp2_with (first | (go_at_call 8; (with_reducible refine (C.out).mono ?_); rintro e w1 ⟨n, rfl, hn, h1, h2, rfl⟩))
    go_ret3
    exact ⟨none, 0, 0, false, 0, rfl, NV.nil _ _ _, Below.refl _ _, fun h => absurd h H.out, fun _ => ⟨rfl, rfl⟩⟩
end NC
end Go.Proofs.YtjihapnplfdmmaaDoor
