/-
  Package nat: shiftUp, shiftDown.
-/
import Derived.Test.YtjihapnplfdmmaaDoorN6
import Derived.Test.YtjihapnplfdmmaaDoorNShP
namespace Go.Proofs.YtjihapnplfdmmaaDoor
open Go.RowKit
set_option linter.unusedVariables false
namespace NC
open L
open Z (Nz Tz cmpv)
theorem shiftUp_c (v : Value) (l : List Int) (n : Nat) (w : World) (hs : Sl .u32 w v l) (Ll : Lim l) (hl : l.length ≤ 1000000) (hn : n ≤ 1000000) :
    Calls Tryd.prog 36 #[v, .int .i64 n] w (RetV w (lv l * 2 ^ n)) := by
  obtain ⟨A, c, rfl, hc⟩ := hs.form
  have HS := Lib.hid hs
  have LL := Lib.hid Ll
  obtain ⟨x, ex⟩ : ∃ x, x = l.length := ⟨_, rfl⟩
  obtain ⟨s, es⟩ : ∃ s, s = n / 32 := ⟨_, rfl⟩
  obtain ⟨r, er⟩ : ∃ r, r = n % 32 := ⟨_, rfl⟩
  have hs1 : ((n : Int) / 32) = (s : Int) := by omega
  have hr1 : ((n : Int) % 32) = (r : Int) := by omega
  have hr2 : r < 32 := by omega
  have hs2 : s ≤ 100000 := by omega
  rw [← ex] at hc hl HS ⊢
  have EX := Lib.hid ex
  have hmk := run_make_row' (P := Tryd.prog) 22 50 (.int .u32 0) 4 Tryd.underlying22 (by kernel_rfl) rfl .i64 .i64 (s + x + 1) (by omega) (by omega)
  rw [show ((s + x + 1 : Nat) : Int) = (s : Int) + x + 1 by omega] at hmk
  have hD : ∀ N P, ShU l s r N x P → lv P = lv l * 2 ^ n := fun N P h => ShU.done (N := N) (by rw [← es, ← er, ← ex]; exact h)
  have HD := Lib.hid hD
  generalize lv l * 2 ^ n = zz at HD ⊢
  clear hs Ll ex es er hD
  go_enter Tryd.func36, Tryd.ntmps36
  go_wp2
  clear hmk
  go_loopw [23] (fun iv wr => ∃ (i : Nat) (P : List Int), iv = .int .i64 i ∧ i ≤ x ∧ Hid (ShU l s r (s + x + 1) i P) ∧ Hid (Row .u32 50 wr w.heap.size P) ∧ Hid (Below w.heap.size w wr)) (fun iv _ => x - (intOf iv).toNat)
  case atStart => exact ⟨0, _, rfl, by omega, ShU.start _ _ _ _, Row.new' _ _ _ _ rfl, (Below.refl _ _).alloc (Nat.le_refl _) _⟩
  case round =>
    obtain ⟨i, P, rfl, hi, hI, hR, hB⟩ := hrel
    by_cases hix : i < x
    · obtain ⟨adx, cx, exx, _, _, hcx⟩ := (HS.out.below hB.out).at_ i (by rw [← EX.out]; exact hix)
      injection exx with ex1 ex2 ex3
      subst ex1
      obtain ⟨q, hq⟩ : ∃ q, l.getD i 0 = q := ⟨_, rfl⟩
      have bq := LL.out.at_ i
      rw [hq] at hcx bq
      have hpl := hI.out.len
      have hc1 := hR.out.at_ (s + i) (by omega)
      have hc2 := hR.out.at_ (s + i + 1) (by omega)
      have hf1 := hR.out.frozen (s + i)
      have hf2 := hR.out.frozen (s + i + 1)
      have hor := hI.out.or_ (show r ≤ 32 by omega) bq.1 bq.2
      have hst := hI.out.step (show r ≤ 32 by omega) (by omega) hq bq.1 bq.2
      obtain ⟨a1, a2, a3, a4, a5⟩ := sh_low (show r ≤ 32 by omega) bq.1 bq.2
      have tp := two_pos r
      obtain ⟨p, hp⟩ : ∃ p, P.getD (s + i) 0 = p := ⟨_, rfl⟩
      have bp := hI.out.lim.at_ (s + i)
      have t0 : 0 ≤ q * 2 ^ r := Int.mul_nonneg bq.1 (by omega)
      have t1 : q * 2 ^ r < 18446744073709551616 := by omega
      have hwr : IntKind.u64.wrap (q * 2 ^ r) = q * 2 ^ r := Go.u64_wrap_id _ t0 t1
      rw [hp] at hc1 hor hst bp
      obtain ⟨t, ht⟩ : ∃ t, q * 2 ^ r = t := ⟨_, rfl⟩
      rw [ht] at hwr hor hst a1 a2 a3 a4 a5 t0 t1
      rw [← ht] at hwr
      have hwr2 : IntKind.u64.wrap (q * 2 ^ r) = t := by rw [hwr, ht]
      have HST := Lib.hid hst
      have t2 : 2 ^ r ≤ (4294967296 : Int) := by omega
      have t3 : t / 4294967296 < 4294967296 := by omega
      have t4 : t / 4294967296 % 4294967296 = t / 4294967296 := by omega
      clear ex2 ex3 hst hwr hp ht a1 a2 a3 tp hq a4 a5 t2
      go_wp2
      exact ⟨⟨i + 1, _, by simp, by omega, HST.out, ((hR.out.set_ (s + i) _).set_ (s + i + 1) _), ((hB.out.setCell (Nat.le_refl _) _).setCell (Nat.le_refl _) _)⟩, by simp only [intOf]; omega⟩
    · obtain rfl : x = i := by omega
      have hpl := hI.out.len
      have hS := hR.out.sl (s + x + 1) (by omega)
      have T := trim_c (some ⟨w.heap.size, 0, none⟩) (s + x + 1) (s + x + 1) P wr (by rw [hpl] at hS; exact hS) (by omega)
      have T := Lib.hid T
      have HS2 := Lib.hid hS
      have HV := Lib.hid (HD.out _ _ hI.out)
      clear hpl hS
      go_wp2_with (first | (go_at_call 39; (with_reducible refine (T.out).mono ?_); rintro e w5 ⟨m5, rfl, hm5, hz5, hv5, rfl⟩))
      go_ret
      exact ⟨_, _, _, rfl, trimmed HS2.out hm5 hI.out.lim hz5 hv5 HV.out, hB.out⟩
end NC
end Go.Proofs.YtjihapnplfdmmaaDoor
