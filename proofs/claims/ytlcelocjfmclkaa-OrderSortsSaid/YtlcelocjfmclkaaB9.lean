/-
  The library's slices.Sort of []uint64, walked: the partial insertion sort.
-/
import Derived.Test.YtlcelocjfmclkaaB1
import Derived.Deep.CutBlock
import Derived.Deep.DeepCutAuto
namespace Go.Proofs.Ytlcelocjfmclkaa
open Go.RowKit
set_option linter.unusedVariables false
set_option linter.unusedSimpArgs false
namespace BC
open Go.Sort Go.Lib
theorem down_size : ∀ (j : Nat) (d : Array Int), (shiftDown ltInt j d).size = d.size
  | 0, d => by rw [shiftDown]
  | j + 1, d => by
    rw [shiftDown]
    split
    · rfl
    · rw [down_size j, size_swp]
theorem up_size (b : Nat) : ∀ (n j : Nat) (d : Array Int), b - j ≤ n → (shiftUp ltInt b j d).size = d.size
  | 0, j, d, h => by rw [shiftUp, if_neg (by omega)]
  | n + 1, j, d, h => by
    rw [shiftUp]
    split
    · split
      · rfl
      · rw [up_size b n (j + 1) _ (by omega), size_swp]
    · rfl
theorem scan_bd (b : Nat) (d : Array Int) : ∀ (n i : Nat), b - i ≤ n → i ≤ b → i ≤ scanSorted ltInt d b i ∧ scanSorted ltInt d b i ≤ b
  | 0, i, h, hb => by rw [scanSorted, if_neg (by simp; omega)]; omega
  | n + 1, i, h, hb => by
    rw [scanSorted]
    split
    · rename_i hc
      simp only [Bool.and_eq_true, decide_eq_true_eq] at hc
      have := scan_bd b d n (i + 1) (by omega) (by omega)
      omega
    · omega
set_option maxRecDepth 1000000 in
set_option maxHeartbeats 32000000 in
theorem partial_c (g o c a b : Nat) (d0 d : Array Int) (w0 w : World) (R : Rq w0 g o d0) (hs : d0.size = d.size) (S : Sq w0 g o d w) (hab : a < b) (hb : b ≤ d.size) (hsz : d.size < 4611686018427387904) :
    Calls Try.prog 46 #[.slice (some ⟨g, o, none⟩) d.size c, .int .i64 a, .int .i64 b] w fun e w' =>
      e = .returned (.bool (partialInsertionSort ltInt d a b).2) ∧ Sq w0 g o (partialInsertionSort ltInt d a b).1 w' := by
  have HR := Lib.hid R
  have S0 := Lib.hid S
  obtain ⟨T, hT⟩ : ∃ T, T = partialInsertionSort ltInt d a b := ⟨_, rfl⟩
  have HT : Hid (partialIns ltInt a b (5 - 0) (a + 1) d = T) := by unfold Hid; rw [hT]; rfl
  rw [← hT]
  clear R S hT
  go_enter Try.func46, Try.ntmps46
  go_wp2
  go_loopw [7, 8] (fun iv sv wr => ∃ (i s : Nat) (dk : Array Int), iv = .int .i64 i ∧ sv = .int .i64 s ∧ s ≤ 5 ∧ a < i ∧ i ≤ b ∧ dk.size = d.size ∧ Hid (Sq w0 g o dk wr) ∧ Hid (partialIns ltInt a b (5 - s) i dk = T)) (fun _ sv _ => 5 - (Go.Proofs.intOf sv).toNat)
  case atStart => exact ⟨a + 1, 0, d, by go_num, rfl, by omega, by omega, by omega, rfl, S0, HT.out⟩
  case round =>
    obtain ⟨i, s, dk, rfl, rfl, hs5, hai, hib, hsk, SK, HO⟩ := hrel
    by_cases hlt : s < 5
    · have hltz : (s : Int) < 5 := by omega
      obtain ⟨G, hG⟩ : ∃ G : Nat → Int, ∀ t, G t = dk[t]! := ⟨fun t => dk[t]!, fun _ => rfl⟩
      have HG := Lib.hid hG
      have HS : Hid (d0.size = d.size ∧ dk.size = d.size) := ⟨hs, hsk⟩
      obtain ⟨k, hk⟩ : ∃ k, k = scanSorted ltInt dk b i := ⟨_, rfl⟩
      have hkb := scan_bd b dk (b - i) i (Nat.le_refl _) hib
      rw [← hk] at hkb
      obtain ⟨k1, k2⟩ := hkb
      have HK := Lib.hid hk
      clear hG hk
      go_upto_block 2 with fail
      go_cut [7] (fun s7 wx => s7 = .int .i64 k ∧ Hid (Sq w0 g o dk wx))
      case first =>
        go_wp2_with fail
        go_loopw [7] (fun s7 wx => ∃ (i1 : Nat), s7 = .int .i64 i1 ∧ i ≤ i1 ∧ i1 ≤ b ∧ Hid (Sq w0 g o dk wx) ∧ Hid (scanSorted ltInt dk b i1 = k)) (fun s7 _ => b - (Go.Proofs.intOf s7).toNat)
        case atStart => exact ⟨i, rfl, Nat.le_refl _, hib, SK, HK.out.symm⟩
        case round =>
          obtain ⟨i1, rfl, q1, q2, S1, HU⟩ := hrel
          obtain ⟨hc, hf⟩ := Sq.cells S1.out HR.out HG.out HS.out
          by_cases h3 : i1 < b
          · have h3z : (i1 : Int) < (b : Int) := by omega
            have h4 : i1 < d.size := by omega
            obtain ⟨im, him⟩ : ∃ im, im = i1 - 1 := ⟨_, rfl⟩
            have y1 : (i1 : Int) - 1 = (im : Int) := by omega
            have y2 : IntKind.i64.wrap (im : Int) = im := by rw [IntKind.wrap_i64]; omega
            have y3 : im < d.size := by omega
            have HM := Lib.hid him
            clear him
            cases hl : ltInt (G i1) (G im)
            · have hl' : Hid (ltInt dk[i1]! dk[i1 - 1]! = false) := by unfold Hid; rw [← HM.out, ← HG.out, ← HG.out]; exact hl
              go_wp2
              (go_quiet (first | (go_at_call 47; refine Calls.quiet_of_same (Less_c _ _ _)))); have Sx := Lib.hid (Sq.drewN_ S1.out nq); clear hc hf; generalize wr.drewN nq = w2 at Sx ⊢; clear nq; obtain ⟨hc, hf⟩ := Sq.cells Sx.out HR.out HG.out HS.out
              go_wp2
              exact ⟨⟨i1 + 1, by go_num, by omega, by omega, Sx.out, by rw [← HU.out]; exact (scanSorted_go _ _ _ _ h3 hl'.out).symm⟩, by simp [Go.Proofs.intOf] <;> omega⟩
            · have hl' : ltInt dk[i1]! dk[i1 - 1]! = true := by rw [← HM.out, ← HG.out, ← HG.out]; exact hl
              have e : i1 = k := by rw [← HU.out]; exact (scanSorted_stop _ _ _ _ (.inr hl')).symm
              have HE := Lib.hid e
              clear e hl'
              go_wp2
              (go_quiet (first | (go_at_call 47; refine Calls.quiet_of_same (Less_c _ _ _)))); have Sx := Lib.hid (Sq.drewN_ S1.out nq); clear hc hf; generalize wr.drewN nq = w2 at Sx ⊢; clear nq; obtain ⟨hc, hf⟩ := Sq.cells Sx.out HR.out HG.out HS.out
              go_wp2
              go_meet
              exact ⟨by rw [HE.out], Sx.out⟩
          · have h3z : ¬ (i1 : Int) < (b : Int) := by omega
            have e : i1 = k := by rw [← HU.out]; exact (scanSorted_stop _ _ _ _ (.inl h3)).symm
            have HE := Lib.hid e
            clear e
            go_wp2
            (go_quiet (first | (go_at_call 47; refine Calls.quiet_of_same (Less_c _ _ _)))); have Sx := Lib.hid (Sq.drewN_ S1.out nq); clear hc hf; generalize wr.drewN nq = w2 at Sx ⊢; clear nq; obtain ⟨hc, hf⟩ := Sq.cells Sx.out HR.out HG.out HS.out
            go_wp2
            go_meet
            exact ⟨by rw [HE.out], Sx.out⟩
      case rest =>
        obtain ⟨rfl, S2⟩ := hcut
        by_cases h6 : k = b
        · have e : T = (dk, true) := by rw [← HO.out]; exact pi_true ltInt a b s i dk hlt (HK.out.symm.trans h6)
          have HE := Lib.hid e
          have e1 : ((k : Int) == (b : Int)) = true := by rw [beq_iff_eq]; omega
          clear e h6
          go_wp2
          go_ret
          rw [HE.out]
          exact ⟨rfl, S2.out⟩
        · have e1 : ((k : Int) == (b : Int)) = false := by rw [beq_eq_false_iff_ne]; omega
          have hne : Hid (k ≠ b) := h6
          have hkb2 : k < b := by omega
          obtain ⟨L, hL⟩ : ∃ L, L = b - a := ⟨_, rfl⟩
          have y1 : (b : Int) - (a : Int) = (L : Int) := by omega
          have y2 : IntKind.i64.wrap (L : Int) = L := by rw [IntKind.wrap_i64]; omega
          have HL := Lib.hid hL
          clear h6 hL
          by_cases h50 : L < 50
          · have h50z : (L : Int) < 50 := by omega
            have e : T = (dk, false) := by rw [← HO.out]; exact pi_short ltInt a b s i dk hlt (by rw [← HK.out]; exact hne.out) (by rw [← HL.out]; exact h50)
            have HE := Lib.hid e
            clear e
            go_wp2
            go_ret
            rw [HE.out]
            exact ⟨rfl, S2.out⟩
          · have h50z : ¬ (L : Int) < 50 := by omega
            have e : partialIns ltInt a b (5 - (s + 1)) k (fixUp ltInt b k (fixDown ltInt a k (Go.Sort.swp dk k (k - 1)))) = T := by rw [← HO.out]; exact (pi_go ltInt a b s i k dk hlt HK.out.symm hne.out (by rw [← HL.out]; exact h50)).symm
            have HE := Lib.hid e
            obtain ⟨km, hkm⟩ : ∃ km, km = k - 1 := ⟨_, rfl⟩
            have y3 : (k : Int) - 1 = (km : Int) := by omega
            have y4 : IntKind.i64.wrap (km : Int) = km := by rw [IntKind.wrap_i64]; omega
            have y5 : km < d.size := by omega
            have y6 : k < d.size := by omega
            have HKM := Lib.hid hkm
            have y7 : km < k := by omega
            obtain ⟨hc, hf⟩ := Sq.cells S2.out HR.out HG.out HS.out
            have SA := Lib.hid (S2.out.exd HR.out HG.out k km (by have := HS.out; omega) (by have := HS.out; omega))
            rw [← hkm] at HE
            obtain ⟨dA, hdA⟩ : ∃ dA, dA = Go.Sort.swp dk k km := ⟨_, rfl⟩
            rw [← hdA] at HE SA
            have hAs : dA.size = d.size := by rw [hdA, size_swp]; exact HS.out.2
            clear e hkm hdA
            go_wp2
            go_upto_if 61 with (first | (go_region))
            clear hc hf
            generalize ((wc.setCell ⟨g, o + k, none⟩ (.int .u64 (G km))).setCell ⟨g, o + km, none⟩ (.int .u64 (G k))).drew = w1 at SA ⊢
            obtain ⟨l, hl⟩ : ∃ l, l = k - a := ⟨_, rfl⟩
            have x1 : (k : Int) - (a : Int) = (l : Int) := by omega
            have x2 : IntKind.i64.wrap (l : Int) = l := by rw [IntKind.wrap_i64]; omega
            obtain ⟨m, hm⟩ : ∃ m, m = b - k := ⟨_, rfl⟩
            have x3 : (b : Int) - (k : Int) = (m : Int) := by omega
            have x4 : IntKind.i64.wrap (m : Int) = m := by rw [IntKind.wrap_i64]; omega
            obtain ⟨kp, hkp⟩ : ∃ kp, kp = k + 1 := ⟨_, rfl⟩
            have x5 : (k : Int) + 1 = (kp : Int) := by omega
            have x6 : IntKind.i64.wrap (kp : Int) = kp := by rw [IntKind.wrap_i64]; omega
            obtain ⟨dB, hdB⟩ : ∃ dB, dB = fixDown ltInt a k dA := ⟨_, rfl⟩
            obtain ⟨dC, hdC⟩ : ∃ dC, dC = fixUp ltInt b k dB := ⟨_, rfl⟩
            rw [← hdB, ← hdC] at HE
            have hBs : dB.size = d.size := by rw [hdB]; unfold fixDown; split; · rw [down_size]; exact hAs
                                              · exact hAs
            have hCs : dC.size = d.size := by rw [hdC]; unfold fixUp; split; · rw [up_size b (b - (k + 1)) (k + 1) dB (Nat.le_refl _)]; exact hBs
                                              · exact hBs
            have HB : Hid ((2 ≤ l → shiftDown ltInt km dA = dB) ∧ (¬ 2 ≤ l → dA = dB)) := by
              refine ⟨fun h => ?_, fun h => ?_⟩
              · rw [hdB]; unfold fixDown; rw [if_pos (by omega), HKM.out]
              · rw [hdB]; unfold fixDown; rw [if_neg (by omega)]
            have HC : Hid ((2 ≤ m → shiftUp ltInt b kp dB = dC) ∧ (¬ 2 ≤ m → dB = dC)) := by
              refine ⟨fun h => ?_, fun h => ?_⟩
              · rw [hdC]; unfold fixUp; rw [if_pos (by omega), hkp]
              · rw [hdC]; unfold fixUp; rw [if_neg (by omega)]
            have HKP : Hid (kp = k + 1 ∧ l = k - a ∧ m = b - k) := ⟨hkp, hl, hm⟩
            clear hdB hdC hkp hl hm HG HS
            go_cut [9] (fun s9 wx => Hid (Sq w0 g o dB wx))
            case first =>
              by_cases h7 : 2 ≤ l
              · have h7z : (2 : Int) ≤ (l : Int) := by omega
                have e := HB.out.1 h7
                have HBB := Lib.hid e
                clear e
                go_wp2_with fail
                go_loopw [9] (fun s9 wx => ∃ (j : Nat) (dj : Array Int), s9 = .int .i64 j ∧ j ≤ km ∧ dj.size = d.size ∧ Hid (Sq w0 g o dj wx) ∧ Hid (shiftDown ltInt j dj = dB)) (fun s9 _ => (Go.Proofs.intOf s9).toNat)
                case atStart => exact ⟨km, dA, rfl, Nat.le_refl _, hAs, SA, HBB.out⟩
                case round =>
                  obtain ⟨j, dj, rfl, q1, hsj, SJ, HU⟩ := hrel
                  by_cases h8 : 1 ≤ j
                  · have h8z : (1 : Int) ≤ (j : Int) := by omega
                    obtain ⟨G1, hG1⟩ : ∃ G : Nat → Int, ∀ t, G t = dj[t]! := ⟨fun t => dj[t]!, fun _ => rfl⟩
                    have HG := Lib.hid hG1
                    have HS : Hid (d0.size = d.size ∧ dj.size = d.size) := ⟨hs, hsj⟩
                    obtain ⟨hc, hf⟩ := Sq.cells SJ.out HR.out HG.out HS.out
                    obtain ⟨jm, hjm⟩ : ∃ jm, jm = j - 1 := ⟨_, rfl⟩
                    have t1 : (j : Int) - 1 = (jm : Int) := by omega
                    have t2 : IntKind.i64.wrap (jm : Int) = jm := by rw [IntKind.wrap_i64]; omega
                    have t3 : jm < d.size := by omega
                    have t4 : j < d.size := by omega
                    have t5 : jm < j := by omega
                    have HJM := Lib.hid hjm
                    clear hG1 hjm
                    cases hl : ltInt (G1 j) (G1 jm)
                    · have e : dj = dB := by rw [← HU.out]; exact (shiftDown_stop ltInt j dj (.inr (by rw [← HJM.out, ← HG.out, ← HG.out]; exact hl))).symm
                      have HE2 := Lib.hid e
                      clear e
                      go_wp2
                      (go_quiet (first | (go_at_call 47; refine Calls.quiet_of_same (Less_c _ _ _)))); have Sx := Lib.hid (Sq.drewN_ SJ.out nq); clear hc hf; generalize wr.drewN nq = w2 at Sx ⊢; clear nq; obtain ⟨hc, hf⟩ := Sq.cells Sx.out HR.out HG.out HS.out
                      go_wp2
                      go_meet
                      show Hid (Sq w0 g o dB _)
                      rw [← HE2.out]
                      exact Sx
                    · have e : shiftDown ltInt jm (Go.Sort.swp dj j jm) = dB := by rw [← HU.out, HJM.out]; exact (shiftDown_go ltInt j dj h8 (by rw [← HJM.out, ← HG.out, ← HG.out]; exact hl)).symm
                      have HE2 := Lib.hid e
                      clear e
                      go_wp2
                      (go_quiet (first | (go_at_call 47; refine Calls.quiet_of_same (Less_c _ _ _)))); have Sx := Lib.hid (Sq.drewN_ SJ.out nq); clear hc hf; generalize wr.drewN nq = w2 at Sx ⊢; clear nq; obtain ⟨hc, hf⟩ := Sq.cells Sx.out HR.out HG.out HS.out
                      have SN := Lib.hid (Sx.out.exd HR.out HG.out j jm (by have := HS.out; omega) (by have := HS.out; omega))
                      go_wp2
                      go_region
                      all_goals go_wp2
                      exact ⟨⟨jm, _, rfl, by omega, by rw [size_swp]; exact HS.out.2, SN.out, HE2.out⟩, by simp [Go.Proofs.intOf] <;> omega⟩
                  · have h8z : ¬ (1 : Int) ≤ (j : Int) := by omega
                    have e : dj = dB := by rw [← HU.out]; exact (shiftDown_stop ltInt j dj (.inl (by omega))).symm
                    have HE2 := Lib.hid e
                    clear e
                    go_wp2
                    go_meet
                    show Hid (Sq w0 g o dB _)
                    rw [← HE2.out]
                    exact SJ
              · have h7z : ¬ (2 : Int) ≤ (l : Int) := by omega
                have e := HB.out.2 h7
                have HBB := Lib.hid e
                clear e
                go_wp2
                go_meet
                show Hid (Sq w0 g o dB _)
                rw [← HBB.out]
                exact SA
            case rest =>
              have SB := hcut
              clear hcut
              by_cases h7 : 2 ≤ m
              · have h7z : (2 : Int) ≤ (m : Int) := by omega
                have e := HC.out.1 h7
                have HCC := Lib.hid e
                have kp1 : k < kp ∧ kp ≤ b := by have := HKP.out; omega
                clear e
                go_wp2_with fail
                go_loopw [10] (fun s10 wx => ∃ (j : Nat) (dj : Array Int), s10 = .int .i64 j ∧ k < j ∧ j ≤ b ∧ dj.size = d.size ∧ Hid (Sq w0 g o dj wx) ∧ Hid (shiftUp ltInt b j dj = dC)) (fun s10 _ => b - (Go.Proofs.intOf s10).toNat)
                case atStart => exact ⟨kp, dB, rfl, kp1.1, kp1.2, hBs, SB, HCC.out⟩
                case round =>
                  obtain ⟨j, dj, rfl, q1, q2, hsj, SJ, HU⟩ := hrel
                  by_cases h8 : j < b
                  · have h8z : (j : Int) < (b : Int) := by omega
                    obtain ⟨G1, hG1⟩ : ∃ G : Nat → Int, ∀ t, G t = dj[t]! := ⟨fun t => dj[t]!, fun _ => rfl⟩
                    have HG := Lib.hid hG1
                    have HS : Hid (d0.size = d.size ∧ dj.size = d.size) := ⟨hs, hsj⟩
                    obtain ⟨hc, hf⟩ := Sq.cells SJ.out HR.out HG.out HS.out
                    obtain ⟨jm, hjm⟩ : ∃ jm, jm = j - 1 := ⟨_, rfl⟩
                    have t1 : (j : Int) - 1 = (jm : Int) := by omega
                    have t2 : IntKind.i64.wrap (jm : Int) = jm := by rw [IntKind.wrap_i64]; omega
                    have t3 : jm < d.size := by omega
                    have t4 : j < d.size := by omega
                    have t5 : jm < j := by omega
                    have HJM := Lib.hid hjm
                    clear hG1 hjm
                    cases hl : ltInt (G1 j) (G1 jm)
                    · have e : dj = dC := by rw [← HU.out]; exact (shiftUp_stop ltInt b j dj (.inr (by rw [← HJM.out, ← HG.out, ← HG.out]; exact hl))).symm
                      have HE2 := Lib.hid e
                      clear e
                      go_wp2
                      (go_quiet (first | (go_at_call 47; refine Calls.quiet_of_same (Less_c _ _ _)))); have Sx := Lib.hid (Sq.drewN_ SJ.out nq); clear hc hf; generalize wr.drewN nq = w2 at Sx ⊢; clear nq; obtain ⟨hc, hf⟩ := Sq.cells Sx.out HR.out HG.out HS.out
                      go_wp2
                      exact ⟨⟨k, s + 1, dC, rfl, by go_num, by omega, by omega, by omega, hCs, by rw [← HE2.out]; exact Sx.out, HE.out⟩, by simp [Go.Proofs.intOf] <;> omega⟩
                    · have e : shiftUp ltInt b (j + 1) (Go.Sort.swp dj j jm) = dC := by rw [← HU.out, HJM.out]; exact (shiftUp_go ltInt b j dj h8 (by rw [← HJM.out, ← HG.out, ← HG.out]; exact hl)).symm
                      have HE2 := Lib.hid e
                      clear e
                      go_wp2
                      (go_quiet (first | (go_at_call 47; refine Calls.quiet_of_same (Less_c _ _ _)))); have Sx := Lib.hid (Sq.drewN_ SJ.out nq); clear hc hf; generalize wr.drewN nq = w2 at Sx ⊢; clear nq; obtain ⟨hc, hf⟩ := Sq.cells Sx.out HR.out HG.out HS.out
                      have SN := Lib.hid (Sx.out.exd HR.out HG.out j jm (by have := HS.out; omega) (by have := HS.out; omega))
                      go_wp2
                      go_region
                      all_goals go_wp2
                      exact ⟨⟨j + 1, _, by go_num, by omega, by omega, by rw [size_swp]; exact HS.out.2, SN.out, HE2.out⟩, by simp [Go.Proofs.intOf] <;> omega⟩
                  · have h8z : ¬ (j : Int) < (b : Int) := by omega
                    have e : dj = dC := by rw [← HU.out]; exact (shiftUp_stop ltInt b j dj (.inl h8)).symm
                    have HE2 := Lib.hid e
                    clear e
                    go_wp2
                    exact ⟨⟨k, s + 1, dC, rfl, by go_num, by omega, by omega, by omega, hCs, by rw [← HE2.out]; exact SJ.out, HE.out⟩, by simp [Go.Proofs.intOf] <;> omega⟩
              · have h7z : ¬ (2 : Int) ≤ (m : Int) := by omega
                have e := HC.out.2 h7
                have HCC := Lib.hid e
                clear e
                go_wp2
                exact ⟨⟨k, s + 1, dC, rfl, by go_num, by omega, by omega, by omega, hCs, by rw [← HCC.out]; exact SB.out, HE.out⟩, by simp [Go.Proofs.intOf] <;> omega⟩
    · have hltz : ¬ (s : Int) < 5 := by omega
      obtain rfl : s = 5 := by omega
      have e : T = (dk, false) := by rw [← HO.out]; exact pi_end ltInt a b i dk
      have HE := Lib.hid e
      clear e
      go_wp2
      go_ret
      rw [HE.out]
      exact ⟨rfl, SK.out⟩
end BC
end Go.Proofs.Ytlcelocjfmclkaa
