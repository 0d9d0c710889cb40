/-
  The library's slices.Sort of []uint64, walked: the partition by equals.
-/
import Derived.Test.YtlcelocjfmclkaaB1
import Derived.Deep.CutBlock
import Derived.Deep.DeepCutAuto
namespace Go.Proofs.Ytlcelocjfmclkaa
open Go.RowKit
set_option linter.unusedVariables false
set_option linter.unusedSimpArgs false
namespace BC
open Go.Sort Go.Lib
set_option maxRecDepth 1000000 in
set_option maxHeartbeats 16000000 in
theorem parteq_c (g o c a b pv : Nat) (d0 d : Array Int) (w0 w : World) (R : Rq w0 g o d0) (hs : d0.size = d.size) (S : Sq w0 g o d w) (hap : a ≤ pv) (hpb : pv < b) (hb : b ≤ d.size) (hsz : d.size < 4611686018427387904) :
    Calls Try.prog 48 #[.slice (some ⟨g, o, none⟩) d.size c, .int .i64 a, .int .i64 b, .int .i64 pv] w fun e w' => e = .returned (.int .i64 (partitionEqual ltInt d a b pv).1) ∧ Sq w0 g o (partitionEqual ltInt d a b pv).2 w' := by
  have HR := Lib.hid R
  obtain ⟨G0, hG0⟩ : ∃ G : Nat → Int, ∀ t, G t = d[t]! := ⟨fun t => d[t]!, fun _ => rfl⟩
  obtain ⟨hc, hf⟩ := Sq.cells S R hG0 ⟨hs, rfl⟩
  obtain ⟨u, hu⟩ := SW.c2 S R hs.symm a pv (by omega) (by omega) (.int .u64 (G0 pv))
  have S0 := Lib.hid (S.exd R hG0 a pv (by omega) (by omega))
  obtain ⟨d1, hd1⟩ : ∃ d1, d1 = Go.Sort.swp d a pv := ⟨_, rfl⟩
  have hd1s : d1.size = d.size := by rw [hd1, size_swp]
  rw [← hd1] at S0
  obtain ⟨T, hT⟩ : ∃ T, T = partitionEqual ltInt d a b pv := ⟨_, rfl⟩
  have HT : Hid (partEqLoop ltInt a (a + 1) (b - 1) d1 = T) := by unfold Hid; rw [hT, hd1]; rfl
  rw [← hT]
  have h1 : a < d.size := by omega
  have h2 : pv < d.size := by omega
  clear R S hd1 hT hG0
  go_enter Try.func48, Try.ntmps48
  go_wp2
  go_region
  clear hc hf hu
  generalize ((w.setCell ⟨g, o + a, none⟩ (.int .u64 (G0 pv))).setCell ⟨g, o + pv, none⟩ (.int .u64 (G0 a))).drew = w1 at S0 ⊢
  go_wp2
  go_loopw [9, 10] (fun iv jv wr => ∃ (i j : Nat) (dk : Array Int), iv = .int .i64 i ∧ jv = .int .i64 j ∧ a < i ∧ i ≤ j + 1 ∧ j < b ∧ dk.size = d.size ∧ Hid (Sq w0 g o dk wr) ∧ Hid (partEqLoop ltInt a i j dk = T)) (fun iv jv _ => (Go.Proofs.intOf jv).toNat + 1 - (Go.Proofs.intOf iv).toNat)
  case atStart => exact ⟨a + 1, b - 1, d1, by go_num, by congr 1; omega, by omega, by omega, by omega, hd1s, S0, HT.out⟩
  case round =>
    obtain ⟨i, j, dk, rfl, rfl, hai, hij, hjb, hsk, SK, HO⟩ := hrel
    obtain ⟨G, hG⟩ : ∃ G : Nat → Int, ∀ t, G t = dk[t]! := ⟨fun t => dk[t]!, fun _ => rfl⟩
    have HG := Lib.hid hG
    have HS : Hid (d0.size = d.size ∧ dk.size = d.size) := ⟨hs, hsk⟩
    obtain ⟨I2, hI2⟩ : ∃ x, x = scanUp (fun x => !ltInt dk[a]! x) dk j i := ⟨_, rfl⟩
    obtain ⟨J2, hJ2⟩ : ∃ x, x = scanDown (fun x => ltInt dk[a]! x) dk I2 j := ⟨_, rfl⟩
    have p1 : i ≤ I2 := by rw [hI2]; exact scanUp_ge _ _ _ _
    have p2 : J2 ≤ j := by rw [hJ2]; exact scanDown_le _ _ _ _
    have HI2 := Lib.hid hI2
    have HJ2 := Lib.hid hJ2
    clear hG hI2 hJ2
    go_upto_block 2 with fail
    go_cut [9] (fun s9 wx => s9 = .int .i64 I2 ∧ Hid (Sq w0 g o dk wx))
    case first =>
      go_wp2_with fail
      go_loopw [9] (fun s9 wx => ∃ (i1 : Nat), s9 = .int .i64 i1 ∧ i ≤ i1 ∧ i1 ≤ j + 1 ∧ Hid (Sq w0 g o dk wx) ∧ Hid (scanUp (fun x => !ltInt dk[a]! x) dk j i1 = I2)) (fun s9 _ => j + 1 - (Go.Proofs.intOf s9).toNat)
      case atStart => exact ⟨i, rfl, Nat.le_refl _, hij, SK, HI2.out.symm⟩
      case round =>
        obtain ⟨i1, rfl, q1, q2, S1, HU⟩ := hrel
        obtain ⟨hc, hf⟩ := Sq.cells S1.out HR.out HG.out HS.out
        by_cases h3 : i1 ≤ j
        · have h3z : (i1 : Int) ≤ (j : Int) := by omega
          have h4 : i1 < d.size := by omega
          cases hl : ltInt (G a) (G i1)
          · go_wp2
            (go_quiet (first | (go_at_call 47; refine Calls.quiet_of_same (Less_c _ _ _)))); have S2 := Lib.hid (Sq.drewN_ S1.out nq); clear hc hf; generalize wr.drewN nq = w2 at S2 ⊢; clear nq; obtain ⟨hc, hf⟩ := Sq.cells S2.out HR.out HG.out HS.out
            go_wp2
            exact ⟨⟨i1 + 1, by go_num, by omega, by omega, S2.out, by rw [← HU.out]; exact (scanUp_go _ _ _ _ h3 (by show (!ltInt dk[a]! dk[i1]!) = true; rw [← HG.out, ← HG.out, hl]; rfl)).symm⟩, by simp [Go.Proofs.intOf] <;> omega⟩
          · have e : i1 = I2 := by rw [← HU.out]; exact (scanUp_end _ _ _ _ (.inr (by show (!ltInt dk[a]! dk[i1]!) = false; rw [← HG.out, ← HG.out, hl]; rfl))).symm
            have HE := Lib.hid e
            clear e
            go_wp2
            (go_quiet (first | (go_at_call 47; refine Calls.quiet_of_same (Less_c _ _ _)))); have S2 := Lib.hid (Sq.drewN_ S1.out nq); clear hc hf; generalize wr.drewN nq = w2 at S2 ⊢; clear nq; obtain ⟨hc, hf⟩ := Sq.cells S2.out HR.out HG.out HS.out
            go_wp2
            go_meet
            exact ⟨by rw [HE.out], S2.out⟩
        · have h3z : ¬ (i1 : Int) ≤ (j : Int) := by omega
          have e : i1 = I2 := by rw [← HU.out]; exact (scanUp_end _ _ _ _ (.inl h3)).symm
          have HE := Lib.hid e
          clear e
          go_wp2
          (go_quiet (first | (go_at_call 47; refine Calls.quiet_of_same (Less_c _ _ _)))); have S2 := Lib.hid (Sq.drewN_ S1.out nq); clear hc hf; generalize wr.drewN nq = w2 at S2 ⊢; clear nq; obtain ⟨hc, hf⟩ := Sq.cells S2.out HR.out HG.out HS.out
          go_wp2
          go_meet
          exact ⟨by rw [HE.out], S2.out⟩
    case rest =>
      obtain ⟨rfl, S2⟩ := hcut
      have p3 : I2 ≤ j + 1 := by rw [HI2.out]; exact (scanUp_spec (fun x => !ltInt dk[a]! x) dk j _ i rfl).2.1 hij
      have p4 : I2 ≤ J2 + 1 := by rw [HJ2.out]; exact (scanDown_spec (fun x => ltInt dk[a]! x) dk I2 j).2.1 p3
      go_upto_block 4 with fail
      go_cut [10] (fun s10 wx => s10 = .int .i64 J2 ∧ Hid (Sq w0 g o dk wx))
      case first =>
        go_wp2_with fail
        go_loopw [10] (fun s10 wx => ∃ (j1 : Nat), s10 = .int .i64 j1 ∧ j1 ≤ j ∧ I2 ≤ j1 + 1 ∧ Hid (Sq w0 g o dk wx) ∧ Hid (scanDown (fun x => ltInt dk[a]! x) dk I2 j1 = J2)) (fun s10 _ => (Go.Proofs.intOf s10).toNat)
        case atStart => exact ⟨j, rfl, Nat.le_refl _, p3, S2, HJ2.out.symm⟩
        case round =>
          obtain ⟨j1, rfl, q1, q2, S1, HU⟩ := hrel
          obtain ⟨hc, hf⟩ := Sq.cells S1.out HR.out HG.out HS.out
          by_cases h3 : I2 ≤ j1
          · have h3z : (I2 : Int) ≤ (j1 : Int) := by omega
            have h4 : j1 < d.size := by omega
            cases hl : ltInt (G a) (G j1)
            · have e : j1 = J2 := by rw [← HU.out]; exact (scanDown_end _ _ _ _ (.inr (by show ltInt dk[a]! dk[j1]! = false; rw [← HG.out, ← HG.out, hl]))).symm
              have HE := Lib.hid e
              clear e
              go_wp2
              (go_quiet (first | (go_at_call 47; refine Calls.quiet_of_same (Less_c _ _ _)))); have S3 := Lib.hid (Sq.drewN_ S1.out nq); clear hc hf; generalize wr.drewN nq = w3 at S3 ⊢; clear nq; obtain ⟨hc, hf⟩ := Sq.cells S3.out HR.out HG.out HS.out
              go_wp2
              go_meet
              exact ⟨by rw [HE.out], S3.out⟩
            · go_wp2
              (go_quiet (first | (go_at_call 47; refine Calls.quiet_of_same (Less_c _ _ _)))); have S3 := Lib.hid (Sq.drewN_ S1.out nq); clear hc hf; generalize wr.drewN nq = w3 at S3 ⊢; clear nq; obtain ⟨hc, hf⟩ := Sq.cells S3.out HR.out HG.out HS.out
              go_wp2
              exact ⟨⟨j1 - 1, by congr 1; omega, by omega, by omega, S3.out, by rw [← HU.out]; exact (scanDown_go _ _ _ _ h3 (by omega) (by show ltInt dk[a]! dk[j1]! = true; rw [← HG.out, ← HG.out, hl])).symm⟩, by simp [Go.Proofs.intOf] <;> omega⟩
          · have h3z : ¬ (I2 : Int) ≤ (j1 : Int) := by omega
            have e : j1 = J2 := by rw [← HU.out]; exact (scanDown_end _ _ _ _ (.inl h3)).symm
            have HE := Lib.hid e
            clear e
            go_wp2
            (go_quiet (first | (go_at_call 47; refine Calls.quiet_of_same (Less_c _ _ _)))); have S3 := Lib.hid (Sq.drewN_ S1.out nq); clear hc hf; generalize wr.drewN nq = w3 at S3 ⊢; clear nq; obtain ⟨hc, hf⟩ := Sq.cells S3.out HR.out HG.out HS.out
            go_wp2
            go_meet
            exact ⟨by rw [HE.out], S3.out⟩
      case rest =>
        obtain ⟨rfl, S3⟩ := hcut
        by_cases h5 : J2 < I2
        · have h5z : (J2 : Int) < (I2 : Int) := by omega
          have e : T = (I2, dk) := by rw [← HO.out]; exact partEq_break ltInt a i j dk HI2.out HJ2.out h5
          go_wp2
          go_ret
          rw [e]
          exact ⟨rfl, S3.out⟩
        · have h5z : ¬ (J2 : Int) < (I2 : Int) := by omega
          have hlt := scans_lt ltInt a i j dk (by omega) HI2.out HJ2.out (by omega)
          have e : partEqLoop ltInt a (I2 + 1) (J2 - 1) (Go.Sort.swp dk I2 J2) = T := by rw [← HO.out]; exact (partEq_go ltInt a i j dk HI2.out HJ2.out h5).symm
          have HE := Lib.hid e
          obtain ⟨hc, hf⟩ := Sq.cells S3.out HR.out HG.out HS.out
          have b1 : I2 < d.size := by omega
          have b2 : J2 < d.size := by omega
          have SN := Lib.hid (S3.out.exd HR.out HG.out I2 J2 (by have := HS.out; omega) (by have := HS.out; omega))
          clear e
          go_wp2
          go_region
          all_goals go_wp2
          exact ⟨⟨I2 + 1, J2 - 1, _, by go_num, by congr 1; omega, by omega, by omega, by omega, by rw [size_swp]; exact HS.out.2, SN.out, HE.out⟩, by simp [Go.Proofs.intOf] <;> omega⟩
end BC
end Go.Proofs.Ytlcelocjfmclkaa
