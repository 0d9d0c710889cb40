/-
  The reference's whole numbers: a number's digits (N).
-/
import Derived.Test.YtjihapnplfdmmaaZ2
import Derived.Test.YtjihapnplfdmmaaOwn
namespace Go.Proofs.Ytjihapnplfdmmaa
open Go.RowKit
set_option linter.unusedVariables false
theorem el_int : Elem 32 3 .i64 := Elem.of Try.underlying32 (b := 8) (by kernel_rfl) (by decide)
namespace ZC
open Z
theorem N_c (n : Int) (h0 : -9223372036854775808 ≤ n) (h1 : n ≤ 9223372036854775807) (w : World) :
    Calls Try.prog 10 #[.int .i64 n] w (RetZ w n) := by
  have H0 := Lib.hid (NI.start n h0 h1)
  go_enter Try.func10, Try.ntmps10
  go_wp2
  go_loopw [0] (fun i wr => ∃ m L A k c, i = .int .i64 m ∧ Hid (NI n m L) ∧ Hid (k = L.length) ∧ Own .i64 3 wr (w.heap.size + 2) (.slice A k c) L ∧ Blk wr w.heap.size 34 #[.bool false, .slice none 0 0] ∧ Blk wr (w.heap.size + 1) 34 #[.bool (decide (n < 0)), .slice A k c] ∧ Below w.heap.size w wr) (fun i _ => (intOf i).natAbs)
  case atStart =>
    refine ⟨n, [], none, 0, 0, rfl, H0.out, rfl, Own.nil _ _ _ _, (Blk.new _ _ _).alloc _, ?_, ((Below.refl _ _).alloc (Nat.le_refl _) _).alloc (by simp) _⟩
    have := Blk.new (w.alloc (.cells #[.bool false, .slice none 0 0] 34)) 34 #[.bool (decide (n < 0)), .slice none 0 0]
    simpa using this
  case round =>
    obtain ⟨m, L, A, k, c, rfl, hni, HK, hown, hb0, hb1, hbw⟩ := hrel
    have p0 := hb1.at_ 0 rfl
    have p1 := hb1.at_ 1 rfl
    have f1 := hb1.frozen 1
    have hsz := hb1.lt
    by_cases hm : m = 0
    · subst hm
      have hmm : ((0 : Int) != 0) = false := rfl
      have hsl := Lib.hid hown.sl
      have hd := Lib.hid hni.out.done
      have t0 := hb0.at_ 0 rfl
      have t1 := hb0.at_ 1 rfl
      have t2 := hb0.frozen 0
      have t3 := hb0.frozen 1
      go_wp2
      refine bodyPost_ret (v := .agg #[.bool (decide (n < 0)), .slice A k c]) (by simp [results, Try.results10, go_sem, t0, t1]) rfl ?_
      exact RetZ.cell (B0 := w.heap.size + 2) ⟨⟨rfl, L, HK.out, hsl.out, hd.out⟩, hown.at_least⟩ (by omega) (Nat.le_refl _) t0 t1 hbw
    · have hm1 : (m != 0) = true := by rw [bne_iff_ne]; exact hm
      have hst := Lib.hid (hni.out.step hm)
      have hmb : -9223372036854775808 ≤ m ∧ m ≤ 9223372036854775807 := hni.out.bd h0 h1
      have tb := tmod_bd m
      by_cases hd : m.tmod 10000 < 0
      · have hdg := Lib.hid (show -(m.tmod 10000) = dgt m by unfold dgt; rw [if_pos hd])
        go_wp2_with (at_builtin; refine app1 el_int rfl _ _ rfl rfl hown _ rfl (by have := hni.out.len; omega) (by omega) ?_; intro A2 k2 c2 w2 hk2 hown2 hg2 hat2; have q0 := hb0.grown hg2 (hown.ne hb0 (by decide)); have q1 := hb1.grown hg2 (hown.ne hb1 (by decide)); have r1 := q1.at_ 1 rfl; have g1 := q1.frozen 1; clear p0 p1 f1)
        rw [hdg.out] at hown2
        have hlt := hown.lt
        have hbw2 : Below w.heap.size w w2 := hbw.grown hg2 (by omega) (fun g hg => by have := hown.lt g hg; omega)
        clear r1 g1
        go_roundw
        case rel =>
          refine ⟨_, _, _, _, _, rfl, hst.out, (hk2.out.trans (by simp)), hown2.low (by simp) _, q0.far (by simp) _, ?_, hbw2.setCell (by simp) _⟩
          simpa using q1.set_ 1 (.slice A2 k2 c2)
        case measure => simp only [intOf]; have := tdiv_abs m; omega
      · have hdg := Lib.hid (show m.tmod 10000 = dgt m by unfold dgt; rw [if_neg hd])
        go_wp2_with (at_builtin; refine app1 el_int rfl _ _ rfl rfl hown _ rfl (by have := hni.out.len; omega) (by omega) ?_; intro A2 k2 c2 w2 hk2 hown2 hg2 hat2; have q0 := hb0.grown hg2 (hown.ne hb0 (by decide)); have q1 := hb1.grown hg2 (hown.ne hb1 (by decide)); have r1 := q1.at_ 1 rfl; have g1 := q1.frozen 1; clear p0 p1 f1)
        rw [hdg.out] at hown2
        have hlt := hown.lt
        have hbw2 : Below w.heap.size w w2 := hbw.grown hg2 (by omega) (fun g hg => by have := hown.lt g hg; omega)
        clear r1 g1
        go_roundw
        case rel =>
          refine ⟨_, _, _, _, _, rfl, hst.out, (hk2.out.trans (by simp)), hown2.low (by simp) _, q0.far (by simp) _, ?_, hbw2.setCell (by simp) _⟩
          simpa using q1.set_ 1 (.slice A2 k2 c2)
        case measure => simp only [intOf]; have := tdiv_abs m; omega
end ZC
end Go.Proofs.Ytjihapnplfdmmaa
