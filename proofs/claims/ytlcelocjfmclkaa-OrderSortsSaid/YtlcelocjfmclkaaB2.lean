/-
  The library's slices.Sort of []uint64, walked: the heap's sift.
-/
import Derived.Test.YtlcelocjfmclkaaB1
namespace Go.Proofs.Ytlcelocjfmclkaa
open Go.RowKit
set_option linter.unusedVariables false
set_option linter.unusedSimpArgs false
namespace BC
open Go.Sort Go.Lib
set_option maxRecDepth 100000 in
set_option maxHeartbeats 8000000 in
theorem sift_c (g o c lo hi F : Nat) (d0 d : Array Int) (w0 w : World) (R : Rq w0 g o d0) (hs : d0.size = d.size) (S : Sq w0 g o d w) (hlo : lo ≤ hi) (hb : F + hi ≤ d.size) (hsz : d.size < 4611686018427387904) :
    Calls Try.prog 60 #[.slice (some ⟨g, o, none⟩) d.size c, .int .i64 lo, .int .i64 hi, .int .i64 F] w fun e w' => e = .returned (.tuple #[]) ∧ Sq w0 g o (siftDown ltInt hi F lo d) w' := by
  have HR := Lib.hid R
  have S0 := Lib.hid S
  clear R S
  go_enter Try.func60, Try.ntmps60
  go_wp2
  go_loopw [8] (fun rv wr => ∃ (r : Nat) (dk : Array Int), rv = .int .i64 r ∧ r ≤ hi ∧ dk.size = d.size ∧ Hid (Sq w0 g o dk wr) ∧ Hid (siftDown ltInt hi F r dk = siftDown ltInt hi F lo d)) (fun rv _ => hi - (Go.Proofs.intOf rv).toNat)
  case atStart => exact ⟨lo, d, rfl, hlo, rfl, S0, rfl⟩
  case round =>
    obtain ⟨r, dk, rfl, hr, hsk, SK, HO⟩ := hrel
    obtain ⟨ch, hch⟩ : ∃ ch, ch = 2 * r + 1 := ⟨_, rfl⟩
    have z1 : 2 * (r : Int) + 1 = (ch : Int) := by omega
    have v0 : IntKind.i64.wrap (ch : Int) = ch := by rw [IntKind.wrap_i64]; omega
    by_cases h0 : hi ≤ ch
    · have h0z : (hi : Int) ≤ (ch : Int) := by omega
      have v00 : IntKind.i64.wrap (2 * (r : Int) + 1) = ch := by rw [IntKind.wrap_i64]; omega
      have v01 : IntKind.i64.wrap (2 * (r : Int)) = 2 * (r : Int) := by rw [IntKind.wrap_i64]; omega
      clear z1
      go_wp2
      go_end0
      exact ⟨rfl, by rw [← HO.out, sd_end ltInt dk (by omega)]; exact SK.out⟩
    · have h0z : ¬ (hi : Int) ≤ (ch : Int) := by omega
      obtain ⟨G, hG, hc, hf⟩ := Sq.fam SK.out HR.out (by omega)
      rw [hsk] at hc hf
      have HG := Lib.hid hG
      clear hG
      obtain ⟨ch1, hch1⟩ : ∃ x, x = ch + 1 := ⟨_, rfl⟩
      obtain ⟨p, hp⟩ : ∃ x, x = F + ch := ⟨_, rfl⟩
      obtain ⟨p1, hp1⟩ : ∃ x, x = p + 1 := ⟨_, rfl⟩
      obtain ⟨pr, hpr⟩ : ∃ x, x = F + r := ⟨_, rfl⟩
      have z2 : (ch : Int) + 1 = (ch1 : Int) := by omega
      have z3 : (F : Int) + (ch : Int) = (p : Int) := by omega
      have z4 : (p : Int) + 1 = (p1 : Int) := by omega
      have z5 : (F : Int) + (r : Int) = (pr : Int) := by omega
      have z6 : (F : Int) + (ch1 : Int) = (p1 : Int) := by omega
      have v1 : IntKind.i64.wrap (p : Int) = p := by rw [IntKind.wrap_i64]; omega
      have v2 : IntKind.i64.wrap (p1 : Int) = p1 := by rw [IntKind.wrap_i64]; omega
      have v3 : IntKind.i64.wrap (pr : Int) = pr := by rw [IntKind.wrap_i64]; omega
      have i1 : p < d.size := by omega
      have i2 : pr < d.size := by omega
      have eL : Hid (F + (2 * r + 1) = p) := by unfold Hid; omega
      have eR : Hid (F + (2 * r + 2) = p1) := by unfold Hid; omega
      have eC : Hid (F + r = pr) := by unfold Hid; omega
      have EE : Hid (2 * r + 1 = ch ∧ 2 * r + 2 = ch1 ∧ r < ch) := by unfold Hid; omega
      have HS : Hid (d0.size = d.size ∧ dk.size = d.size) := ⟨hs, hsk⟩
      by_cases h2 : ch1 < hi
      · have i3 : p1 < d.size := by omega
        have h2z : (ch1 : Int) < (hi : Int) := by omega
        clear hp hp1 hpr hch1 hch
        cases hl : ltInt (G p) (G p1)
        · cases hm : ltInt (G pr) (G p)
          · go_wp2
            (go_quiet (first | (go_at_call 47; refine Calls.quiet_of_same (Less_c _ _ _)))); have S2 := Lib.hid (Sq.drewN_ SK.out nq); clear hc hf; generalize wr.drewN nq = w2 at S2 ⊢; clear nq; obtain ⟨hc, hf⟩ := Sq.cells S2.out HR.out HG.out HS.out
            go_wp2
            (go_quiet (first | (go_at_call 47; refine Calls.quiet_of_same (Less_c _ _ _)))); have S3 := Lib.hid (Sq.drewN_ S2.out nq); clear hc hf; generalize w2.drewN nq = w3 at S3 ⊢; clear nq; obtain ⟨hc, hf⟩ := Sq.cells S3.out HR.out HG.out HS.out
            go_wp2
            ((try simp only [Exit.inBlock, Exit.then]); refine bodyPost_ret (results_none rfl _ _ _) rfl ?_)
            exact ⟨rfl, by
              rw [← HO.out, sd_left_stop ltInt dk (by have := EE.out; omega) (fun _ => by rw [eL.out, eR.out, ← HG.out, ← HG.out]; exact hl) (by rw [eC.out, eL.out, ← HG.out, ← HG.out]; exact hm)]
              exact S3.out⟩
          · go_wp2
            (go_quiet (first | (go_at_call 47; refine Calls.quiet_of_same (Less_c _ _ _)))); have S2 := Lib.hid (Sq.drewN_ SK.out nq); clear hc hf; generalize wr.drewN nq = w2 at S2 ⊢; clear nq; obtain ⟨hc, hf⟩ := Sq.cells S2.out HR.out HG.out HS.out
            go_wp2
            (go_quiet (first | (go_at_call 47; refine Calls.quiet_of_same (Less_c _ _ _)))); have S3 := Lib.hid (Sq.drewN_ S2.out nq); clear hc hf; generalize w2.drewN nq = w3 at S3 ⊢; clear nq; obtain ⟨hc, hf⟩ := Sq.cells S3.out HR.out HG.out HS.out
            have SN := Lib.hid (S3.out.ex_ HR.out HG.out pr p (by omega) (by omega))
            go_wp2
            go_region
            all_goals go_wp2
            exact ⟨⟨ch, _, rfl, by omega, by rw [size_swp]; exact hsk, SN.out 1, by
              rw [← HO.out, sd_left_go ltInt dk (by have := EE.out; omega) (fun _ => by rw [eL.out, eR.out, ← HG.out, ← HG.out]; exact hl) (by rw [eC.out, eL.out, ← HG.out, ← HG.out]; exact hm), eC.out, eL.out, EE.out.1]; exact rfl⟩, by have := EE.out; simp [Go.Proofs.intOf]; omega⟩
        · cases hm : ltInt (G pr) (G p1)
          · go_wp2
            (go_quiet (first | (go_at_call 47; refine Calls.quiet_of_same (Less_c _ _ _)))); have S2 := Lib.hid (Sq.drewN_ SK.out nq); clear hc hf; generalize wr.drewN nq = w2 at S2 ⊢; clear nq; obtain ⟨hc, hf⟩ := Sq.cells S2.out HR.out HG.out HS.out
            go_wp2
            (go_quiet (first | (go_at_call 47; refine Calls.quiet_of_same (Less_c _ _ _)))); have S3 := Lib.hid (Sq.drewN_ S2.out nq); clear hc hf; generalize w2.drewN nq = w3 at S3 ⊢; clear nq; obtain ⟨hc, hf⟩ := Sq.cells S3.out HR.out HG.out HS.out
            go_wp2
            ((try simp only [Exit.inBlock, Exit.then]); refine bodyPost_ret (results_none rfl _ _ _) rfl ?_)
            exact ⟨rfl, by
              rw [← HO.out, sd_right_stop ltInt dk (by have := EE.out; omega) (by rw [eL.out, eR.out, ← HG.out, ← HG.out]; exact hl) (by rw [eC.out, eR.out, ← HG.out, ← HG.out]; exact hm)]
              exact S3.out⟩
          · go_wp2
            (go_quiet (first | (go_at_call 47; refine Calls.quiet_of_same (Less_c _ _ _)))); have S2 := Lib.hid (Sq.drewN_ SK.out nq); clear hc hf; generalize wr.drewN nq = w2 at S2 ⊢; clear nq; obtain ⟨hc, hf⟩ := Sq.cells S2.out HR.out HG.out HS.out
            go_wp2
            (go_quiet (first | (go_at_call 47; refine Calls.quiet_of_same (Less_c _ _ _)))); have S3 := Lib.hid (Sq.drewN_ S2.out nq); clear hc hf; generalize w2.drewN nq = w3 at S3 ⊢; clear nq; obtain ⟨hc, hf⟩ := Sq.cells S3.out HR.out HG.out HS.out
            have SN := Lib.hid (S3.out.ex_ HR.out HG.out pr p1 (by omega) (by omega))
            go_wp2
            go_region
            all_goals go_wp2
            exact ⟨⟨ch1, _, rfl, by omega, by rw [size_swp]; exact hsk, SN.out 1, by
              rw [← HO.out, sd_right_go ltInt dk (by have := EE.out; omega) (by rw [eL.out, eR.out, ← HG.out, ← HG.out]; exact hl) (by rw [eC.out, eR.out, ← HG.out, ← HG.out]; exact hm), eC.out, eR.out, EE.out.2.1]; exact rfl⟩, by have := EE.out; simp [Go.Proofs.intOf]; omega⟩
      · have h2z : ¬ (ch1 : Int) < (hi : Int) := by omega
        have EN : Hid (2 * r + 2 < hi → False) := fun h => by omega
        clear hp hp1 hpr hch1 hch
        cases hm : ltInt (G pr) (G p)
        · go_wp2
          (go_quiet (first | (go_at_call 47; refine Calls.quiet_of_same (Less_c _ _ _)))); have S2 := Lib.hid (Sq.drewN_ SK.out nq); clear hc hf; generalize wr.drewN nq = w2 at S2 ⊢; clear nq; obtain ⟨hc, hf⟩ := Sq.cells S2.out HR.out HG.out HS.out
          go_wp2
          (go_quiet (first | (go_at_call 47; refine Calls.quiet_of_same (Less_c _ _ _)))); have S3 := Lib.hid (Sq.drewN_ S2.out nq); clear hc hf; generalize w2.drewN nq = w3 at S3 ⊢; clear nq; obtain ⟨hc, hf⟩ := Sq.cells S3.out HR.out HG.out HS.out
          go_wp2
          ((try simp only [Exit.inBlock, Exit.then]); refine bodyPost_ret (results_none rfl _ _ _) rfl ?_)
          exact ⟨rfl, by
            rw [← HO.out, sd_left_stop ltInt dk (by have := EE.out; omega) (fun h => (EN.out h).elim) (by rw [eC.out, eL.out, ← HG.out, ← HG.out]; exact hm)]
            exact S3.out⟩
        · go_wp2
          (go_quiet (first | (go_at_call 47; refine Calls.quiet_of_same (Less_c _ _ _)))); have S2 := Lib.hid (Sq.drewN_ SK.out nq); clear hc hf; generalize wr.drewN nq = w2 at S2 ⊢; clear nq; obtain ⟨hc, hf⟩ := Sq.cells S2.out HR.out HG.out HS.out
          go_wp2
          (go_quiet (first | (go_at_call 47; refine Calls.quiet_of_same (Less_c _ _ _)))); have S3 := Lib.hid (Sq.drewN_ S2.out nq); clear hc hf; generalize w2.drewN nq = w3 at S3 ⊢; clear nq; obtain ⟨hc, hf⟩ := Sq.cells S3.out HR.out HG.out HS.out
          have SN := Lib.hid (S3.out.ex_ HR.out HG.out pr p (by omega) (by omega))
          go_wp2
          go_region
          all_goals go_wp2
          exact ⟨⟨ch, _, rfl, by omega, by rw [size_swp]; exact hsk, SN.out 1, by
            rw [← HO.out, sd_left_go ltInt dk (by have := EE.out; omega) (fun h => (EN.out h).elim) (by rw [eC.out, eL.out, ← HG.out, ← HG.out]; exact hm), eC.out, eL.out, EE.out.1]; exact rfl⟩, by have := EE.out; simp [Go.Proofs.intOf]; omega⟩
end BC
end Go.Proofs.Ytlcelocjfmclkaa
