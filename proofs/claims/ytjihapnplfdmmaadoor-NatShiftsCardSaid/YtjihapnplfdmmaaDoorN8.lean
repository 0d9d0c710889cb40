/-
  Package nat: shiftDown.
-/
import Derived.Test.YtjihapnplfdmmaaDoorN7
namespace Go.Proofs.YtjihapnplfdmmaaDoor
open Go.RowKit
set_option linter.unusedVariables false
namespace NC
open L
open Z (Nz Tz cmpv)
theorem shiftDown_c (v : Value) (l : List Int) (n : Nat) (w : World) (hs : Sl .u32 w v l) (Ll : Lim l) (hl : l.length ≤ 1000000) (hn : n ≤ 1000000) :
    Calls Tryd.prog 34 #[v, .int .i64 n] w (RetV w (lv l / 2 ^ n)) := by
  obtain ⟨A, c, rfl, hc⟩ := hs.form
  have HS := Lib.hid hs
  have LL := Lib.hid Ll
  obtain ⟨x, ex⟩ : ∃ x, x = l.length := ⟨_, rfl⟩
  obtain ⟨s, es⟩ : ∃ s, s = n / 32 := ⟨_, rfl⟩
  obtain ⟨r, er⟩ : ∃ r, r = n % 32 := ⟨_, rfl⟩
  have hs1 : ((n : Int) / 32) = (s : Int) := by omega
  have hr1 : ((n : Int) % 32) = (r : Int) := by omega
  have hr2 : r < 32 := by omega
  have hs2 : s ≤ 100000 := by omega
  rw [← ex] at hc hl HS ⊢
  by_cases hxs : x ≤ s
  · have hz : lv l / 2 ^ n = 0 := down_none Ll (by rw [← ex, ← es]; exact hxs)
    rw [hz]
    have e1 : decide ((s : Int) ≥ (x : Int)) = true := by simp; omega
    clear hs Ll es er hz HS LL
    clear ex
    go_enter Tryd.func34, Tryd.ntmps34
    go_wp2
    go_ret
    exact ⟨_, _, _, rfl, NV.nil _ _ _, Below.refl _ _⟩
  · have EX := Lib.hid ex
    obtain ⟨N, eN⟩ : ∃ N, N = x - s := ⟨_, rfl⟩
    have hmk := run_make_row' (P := Tryd.prog) 22 50 (.int .u32 0) 4 Tryd.underlying22 (by kernel_rfl) rfl .i64 .i64 N (by omega) (by omega)
    rw [show ((N : Nat) : Int) = (x : Int) - s by omega] at hmk
    have hD : ∀ P, ShD l s r N N P → lv P = lv l / 2 ^ n := fun P h => ShD.done (N := N) Ll (by rw [← es, ← ex]; exact eN) (by rw [← es, ← ex]; omega) (by rw [← es, ← er]; exact h)
    have HD := Lib.hid hD
    generalize lv l / 2 ^ n = zz at HD ⊢
    have hN1 : s + N = x := by omega
    have HN := Lib.hid eN
    clear hs Ll ex es er hD eN
    go_enter Tryd.func34, Tryd.ntmps34
    go_wp2
    clear hmk
    go_loopw [25] (fun iv wr => ∃ (i : Nat) (P : List Int), iv = .int .i64 i ∧ i ≤ N ∧ Hid (ShD l s r N i P) ∧ Hid (Row .u32 50 wr w.heap.size P) ∧ Hid (Below w.heap.size w wr)) (fun iv _ => N - (intOf iv).toNat)
    case atStart => exact ⟨0, _, rfl, by omega, ShD.start _ _ _ _, Row.new' _ _ _ _ rfl, (Below.refl _ _).alloc (Nat.le_refl _) _⟩
    case round =>
      obtain ⟨i, P, rfl, hi, hI, hR, hB⟩ := hrel
      by_cases hix : i < N
      · obtain ⟨adx, cx, exx, _, _, hcx⟩ := (HS.out.below hB.out).at_ (s + i) (by rw [← EX.out]; omega)
        injection exx with ex1 ex2 ex3
        subst ex1
        obtain ⟨a, ha⟩ : ∃ a, l.getD (s + i) 0 = a := ⟨_, rfl⟩
        have ba := LL.out.at_ (s + i)
        rw [ha] at hcx ba
        have hpl := hI.out.len
        have hc1 := hR.out.at_ i (by omega)
        have hf1 := hR.out.frozen i
        clear ex2 ex3
        by_cases hlast : s + i + 1 < x
        · obtain ⟨ady, cy, eyy, _, _, hcy⟩ := (HS.out.below hB.out).at_ (s + i + 1) (by rw [← EX.out]; omega)
          injection eyy with ey1 ey2 ey3
          injection ey1 with ey1
          subst ey1
          clear ey2 ey3
          obtain ⟨b, hb⟩ : ∃ b, l.getD (s + i + 1) 0 = b := ⟨_, rfl⟩
          have bb := LL.out.at_ (s + i + 1)
          rw [hb] at hcy bb
          have hst := Lib.hid (hI.out.step LL.out (show r ≤ 32 by omega) hix (by rw [← EX.out]; exact HN.out) ha hb)
          have e1 : (s : Int) + i + 1 < x := by omega
          have hcy2 : wr.cell? { block := adx.block, off := adx.off + (s + i + 1) } = some (.int .u32 b) := by have h := hcy; unfold Addr.add at h; rwa [if_neg (by omega)] at h
          have hor : bits .or .u64 a (b * 4294967296) = a + 4294967296 * b := by rw [u64_or32 a (b * 4294967296) ba.1 ba.2 (by omega) (by omega) (by omega)]; omega
          clear ha hb
          go_wp2
          exact ⟨⟨i + 1, _, by simp, by omega, hst.out, hR.out.set_ i _, hB.out.setCell (Nat.le_refl _) _⟩, by simp only [intOf]; omega⟩
        · have hst := hI.out.step LL.out (show r ≤ 32 by omega) hix (by rw [← EX.out]; exact HN.out) ha (Z.getD_out (by rw [← EX.out]; omega))
          rw [Int.mul_zero, Int.add_zero] at hst
          have hst := Lib.hid hst
          have e1 : ¬ (s : Int) + i + 1 < x := by omega
          clear ha
          go_wp2
          exact ⟨⟨i + 1, _, by simp, by omega, hst.out, hR.out.set_ i _, hB.out.setCell (Nat.le_refl _) _⟩, by simp only [intOf]; omega⟩
      · obtain rfl : N = i := by omega
        have hpl := hI.out.len
        have hS := hR.out.sl N (by omega)
        have T := trim_c (some ⟨w.heap.size, 0, none⟩) N N P wr (by rw [hpl] at hS; exact hS) (by omega)
        have T := Lib.hid T
        have HS2 := Lib.hid hS
        have HV := Lib.hid (HD.out _ hI.out)
        clear hpl hS
        go_wp2_with (first | (go_at_call 39; (with_reducible refine (T.out).mono ?_); rintro e w5 ⟨m5, rfl, hm5, hz5, hv5, rfl⟩))
        go_ret
        exact ⟨_, _, _, rfl, trimmed HS2.out hm5 hI.out.lim hz5 hv5 HV.out, hB.out⟩
end NC
end Go.Proofs.YtjihapnplfdmmaaDoor
