/-
  The library's slices.Sort of []uint64, walked: the partition. (Written by wip/tools/gen_b8.py.)
-/
import Derived.Test.YtlcelocjfmclkaaB1
import Derived.Deep.CutBlock
import Derived.Deep.DeepCutAuto
namespace Go.Proofs.Ytlcelocjfmclkaa
open Go.RowKit
set_option linter.unusedVariables false
set_option linter.unusedSimpArgs false
namespace BC
open Go.Sort Go.Lib
set_option maxRecDepth 1000000 in
set_option maxHeartbeats 32000000 in
theorem part_c (g o c a b pv : Nat) (d0 d : Array Int) (w0 w : World) (R : Rq w0 g o d0) (hs : d0.size = d.size) (S : Sq w0 g o d w) (hap : a ≤ pv) (hpb : pv < b) (hb : b ≤ d.size) (hsz : d.size < 4611686018427387904) :
    Calls Try.prog 49 #[.slice (some ⟨g, o, none⟩) d.size c, .int .i64 a, .int .i64 b, .int .i64 pv] w fun e w' =>
      e = .returned (.tuple #[.int .i64 (partition ltInt d a b pv).1, .bool (partition ltInt d a b pv).2.1]) ∧ Sq w0 g o (partition ltInt d a b pv).2.2 w' := by
  have HR := Lib.hid R
  obtain ⟨G0, hG0⟩ : ∃ G : Nat → Int, ∀ t, G t = d[t]! := ⟨fun t => d[t]!, fun _ => rfl⟩
  obtain ⟨hc, hf⟩ := Sq.cells S R hG0 ⟨hs, rfl⟩
  obtain ⟨u, hu⟩ := SW.c2 S R hs.symm a pv (by omega) (by omega) (.int .u64 (G0 pv))
  have S0 := Lib.hid (S.exd R hG0 a pv (by omega) (by omega))
  obtain ⟨d1, hd1⟩ : ∃ d1, d1 = Go.Sort.swp d a pv := ⟨_, rfl⟩
  have hd1s : d1.size = d.size := by rw [hd1, size_swp]
  rw [← hd1] at S0
  obtain ⟨T, hT⟩ : ∃ T, T = partition ltInt d a b pv := ⟨_, rfl⟩
  rw [← hT]
  have HD1 := Lib.hid hd1
  have HTT := Lib.hid hT
  have h1 : a < d.size := by omega
  have h2 : pv < d.size := by omega
  obtain ⟨i, hi⟩ : ∃ i, i = a + 1 := ⟨_, rfl⟩
  obtain ⟨j, hj⟩ : ∃ j, j = b - 1 := ⟨_, rfl⟩
  have z1 : (a : Int) + 1 = (i : Int) := by omega
  have z2 : (b : Int) - 1 = (j : Int) := by omega
  have v1 : IntKind.i64.wrap (i : Int) = i := by rw [IntKind.wrap_i64]; omega
  have v2 : IntKind.i64.wrap (j : Int) = j := by rw [IntKind.wrap_i64]; omega
  have hij : i ≤ j + 1 := by omega
  have hai : a < i := by omega
  have hjb : j < b := by omega
  have HIJ : Hid (i = a + 1 ∧ j = b - 1) := ⟨hi, hj⟩
  clear R S hd1 hT hG0 hi hj
  go_enter Try.func49, Try.ntmps49
  go_wp2
  go_region
  clear hc hf hu
  generalize ((w.setCell ⟨g, o + a, none⟩ (.int .u64 (G0 pv))).setCell ⟨g, o + pv, none⟩ (.int .u64 (G0 a))).drew = w1 at S0 ⊢
  obtain ⟨G, hG⟩ : ∃ G : Nat → Int, ∀ t, G t = d1[t]! := ⟨fun t => d1[t]!, fun _ => rfl⟩
  have HG := Lib.hid hG
  have HS : Hid (d0.size = d.size ∧ d1.size = d.size) := ⟨hs, hd1s⟩
  obtain ⟨I2, hI2⟩ : ∃ x, x = scanUp (fun x => ltInt x d1[a]!) d1 j i := ⟨_, rfl⟩
  obtain ⟨J2, hJ2⟩ : ∃ x, x = scanDown (fun x => !ltInt x d1[a]!) d1 I2 j := ⟨_, rfl⟩
  have p1 : i ≤ I2 := by rw [hI2]; exact scanUp_ge _ _ _ _
  have p2 : J2 ≤ j := by rw [hJ2]; exact scanDown_le _ _ _ _
  have HI2 := Lib.hid hI2
  have HJ2 := Lib.hid hJ2
  clear hG hI2 hJ2
  go_upto_block 0 with fail
  go_cut [10] (fun s9 wx => s9 = .int .i64 I2 ∧ Hid (Sq w0 g o d1 wx))
  case first =>
    go_wp2_with fail
    go_loopw [10] (fun s9 wx => ∃ (i1 : Nat), s9 = .int .i64 i1 ∧ i ≤ i1 ∧ i1 ≤ j + 1 ∧ Hid (Sq w0 g o d1 wx) ∧ Hid (scanUp (fun x => ltInt x d1[a]!) d1 j i1 = I2)) (fun s9 _ => j + 1 - (Go.Proofs.intOf s9).toNat)
    case atStart => exact ⟨i, rfl, Nat.le_refl _, hij, S0, HI2.out.symm⟩
    case round =>
      obtain ⟨i1, rfl, q1, q2, S1, HU⟩ := hrel
      obtain ⟨hc, hf⟩ := Sq.cells S1.out HR.out HG.out HS.out
      by_cases h3 : i1 ≤ j
      · have h3z : (i1 : Int) ≤ (j : Int) := by omega
        have h4 : i1 < d.size := by omega
        cases hl : ltInt (G i1) (G a)
        · have e : i1 = I2 := by rw [← HU.out]; exact (scanUp_end _ _ _ _ (.inr (by show ltInt d1[i1]! d1[a]! = false; rw [← HG.out, ← HG.out, hl]))).symm
          have HE := Lib.hid e
          clear e
          go_wp2
          (go_quiet (first | (go_at_call 47; refine Calls.quiet_of_same (Less_c _ _ _)))); have Sx := Lib.hid (Sq.drewN_ S1.out nq); clear hc hf; generalize wr.drewN nq = w2 at Sx ⊢; clear nq; obtain ⟨hc, hf⟩ := Sq.cells Sx.out HR.out HG.out HS.out
          go_wp2
          go_meet
          exact ⟨by rw [HE.out], Sx.out⟩
        · go_wp2
          (go_quiet (first | (go_at_call 47; refine Calls.quiet_of_same (Less_c _ _ _)))); have Sx := Lib.hid (Sq.drewN_ S1.out nq); clear hc hf; generalize wr.drewN nq = w2 at Sx ⊢; clear nq; obtain ⟨hc, hf⟩ := Sq.cells Sx.out HR.out HG.out HS.out
          go_wp2
          exact ⟨⟨i1 + 1, by go_num, by omega, by omega, Sx.out, by rw [← HU.out]; exact (scanUp_go _ _ _ _ h3 (by show ltInt d1[i1]! d1[a]! = true; rw [← HG.out, ← HG.out, hl])).symm⟩, by simp [Go.Proofs.intOf] <;> omega⟩
      · have h3z : ¬ (i1 : Int) ≤ (j : Int) := by omega
        have e : i1 = I2 := by rw [← HU.out]; exact (scanUp_end _ _ _ _ (.inl h3)).symm
        have HE := Lib.hid e
        clear e
        go_wp2
        (go_quiet (first | (go_at_call 47; refine Calls.quiet_of_same (Less_c _ _ _)))); have Sx := Lib.hid (Sq.drewN_ S1.out nq); clear hc hf; generalize wr.drewN nq = w2 at Sx ⊢; clear nq; obtain ⟨hc, hf⟩ := Sq.cells Sx.out HR.out HG.out HS.out
        go_wp2
        go_meet
        exact ⟨by rw [HE.out], Sx.out⟩
  case rest =>
    obtain ⟨rfl, S2⟩ := hcut
    have p3 : I2 ≤ j + 1 := by rw [HI2.out]; exact (scanUp_spec (fun x => ltInt x d1[a]!) d1 j _ i rfl).2.1 hij
    have p4 : I2 ≤ J2 + 1 := by rw [HJ2.out]; exact (scanDown_spec (fun x => !ltInt x d1[a]!) d1 I2 j).2.1 p3
    go_upto_block 2 with fail
    go_cut [11] (fun s10 wx => s10 = .int .i64 J2 ∧ Hid (Sq w0 g o d1 wx))
    case first =>
      go_wp2_with fail
      go_loopw [11] (fun s10 wx => ∃ (j1 : Nat), s10 = .int .i64 j1 ∧ j1 ≤ j ∧ I2 ≤ j1 + 1 ∧ Hid (Sq w0 g o d1 wx) ∧ Hid (scanDown (fun x => !ltInt x d1[a]!) d1 I2 j1 = J2)) (fun s10 _ => (Go.Proofs.intOf s10).toNat)
      case atStart => exact ⟨j, rfl, Nat.le_refl _, p3, S2, HJ2.out.symm⟩
      case round =>
        obtain ⟨j1, rfl, q1, q2, S1, HU⟩ := hrel
        obtain ⟨hc, hf⟩ := Sq.cells S1.out HR.out HG.out HS.out
        by_cases h3 : I2 ≤ j1
        · have h3z : (I2 : Int) ≤ (j1 : Int) := by omega
          have h4 : j1 < d.size := by omega
          cases hl : ltInt (G j1) (G a)
          · go_wp2
            (go_quiet (first | (go_at_call 47; refine Calls.quiet_of_same (Less_c _ _ _)))); have Sx := Lib.hid (Sq.drewN_ S1.out nq); clear hc hf; generalize wr.drewN nq = w3 at Sx ⊢; clear nq; obtain ⟨hc, hf⟩ := Sq.cells Sx.out HR.out HG.out HS.out
            go_wp2
            exact ⟨⟨j1 - 1, by congr 1; omega, by omega, by omega, Sx.out, by rw [← HU.out]; exact (scanDown_go _ _ _ _ h3 (by omega) (by show (!ltInt d1[j1]! d1[a]!) = true; rw [← HG.out, ← HG.out, hl]; rfl)).symm⟩, by simp [Go.Proofs.intOf] <;> omega⟩
          · have e : j1 = J2 := by rw [← HU.out]; exact (scanDown_end _ _ _ _ (.inr (by show (!ltInt d1[j1]! d1[a]!) = false; rw [← HG.out, ← HG.out, hl]; rfl))).symm
            have HE := Lib.hid e
            clear e
            go_wp2
            (go_quiet (first | (go_at_call 47; refine Calls.quiet_of_same (Less_c _ _ _)))); have Sx := Lib.hid (Sq.drewN_ S1.out nq); clear hc hf; generalize wr.drewN nq = w3 at Sx ⊢; clear nq; obtain ⟨hc, hf⟩ := Sq.cells Sx.out HR.out HG.out HS.out
            go_wp2
            go_meet
            exact ⟨by rw [HE.out], Sx.out⟩
        · have h3z : ¬ (I2 : Int) ≤ (j1 : Int) := by omega
          have e : j1 = J2 := by rw [← HU.out]; exact (scanDown_end _ _ _ _ (.inl h3)).symm
          have HE := Lib.hid e
          clear e
          go_wp2
          (go_quiet (first | (go_at_call 47; refine Calls.quiet_of_same (Less_c _ _ _)))); have Sx := Lib.hid (Sq.drewN_ S1.out nq); clear hc hf; generalize wr.drewN nq = w3 at Sx ⊢; clear nq; obtain ⟨hc, hf⟩ := Sq.cells Sx.out HR.out HG.out HS.out
          go_wp2
          go_meet
          exact ⟨by rw [HE.out], Sx.out⟩
    case rest =>
      obtain ⟨rfl, S3⟩ := hcut
      obtain ⟨hc, hf⟩ := Sq.cells S3.out HR.out HG.out HS.out
      have b0 : J2 < d.size := by omega
      by_cases h5 : J2 < I2
      · have h5z : (J2 : Int) < (I2 : Int) := by omega
        have e : T = (J2, true, Go.Sort.swp d1 J2 a) := by rw [HTT.out]; exact part_first_break ltInt d a b pv HIJ.out.1 HIJ.out.2 HD1.out HI2.out HJ2.out h5
        have HE := Lib.hid e
        obtain ⟨u, hu⟩ := SW.c2 S3.out HR.out (by have := HS.out; omega) J2 a (by have := HS.out; omega) (by have := HS.out; omega) (.int .u64 (G a))
        have SN := Lib.hid (S3.out.exd HR.out HG.out J2 a (by have := HS.out; omega) (by have := HS.out; omega))
        clear e
        go_wp2
        go_region
        all_goals go_wp2
        go_ret2
        rw [HE.out]
        exact ⟨rfl, SN.out⟩
      · have h5z : ¬ (J2 : Int) < (I2 : Int) := by omega
        have hlt := part_scans_lt ltInt a i j d1 (by omega) HI2.out HJ2.out (by omega)
        obtain ⟨V, hV⟩ : ∃ V, V = partLoop ltInt a (I2 + 1) (J2 - 1) (Go.Sort.swp d1 I2 J2) := ⟨_, rfl⟩
        have e : T = (V.1, false, Go.Sort.swp V.2 V.1 a) := by rw [HTT.out, hV]; exact part_first_go ltInt d a b pv HIJ.out.1 HIJ.out.2 HD1.out HI2.out HJ2.out h5
        have HE := Lib.hid e
        have HV := Lib.hid hV
        have b1 : I2 < d.size := by omega
        have SN := Lib.hid (S3.out.exd HR.out HG.out I2 J2 (by have := HS.out; omega) (by have := HS.out; omega))
        have HSN : Hid ((Go.Sort.swp d1 I2 J2).size = d.size) := by unfold Hid; rw [size_swp]; exact HS.out.2
        clear e hV
        go_wp2
        go_region
        all_goals go_wp2
        go_loopw [10, 11] (fun iv jv wr => ∃ (i j : Nat) (dk : Array Int), iv = .int .i64 i ∧ jv = .int .i64 j ∧ a < i ∧ i ≤ j + 1 ∧ j < b ∧ dk.size = d.size ∧ Hid (Sq w0 g o dk wr) ∧ Hid (partLoop ltInt a i j dk = V)) (fun iv jv _ => (Go.Proofs.intOf jv).toNat + 1 - (Go.Proofs.intOf iv).toNat)
        case atStart => exact ⟨I2 + 1, J2 - 1, _, by go_num, by congr 1; omega, by omega, by omega, by omega, HSN.out, SN.out, HV.out.symm⟩
        case round =>
          clear hc hf HIJ HTT HD1 SN HSN HV S0 S2 S3 HI2 HJ2 HG HS p1 p2 p3 p4 hij hai hjb h5 h5z b0 b1 hlt v1 v2 z1 z2
          obtain ⟨k, l, dk, rfl, rfl, hai, hij, hjb, hsk, SK, HO⟩ := hrel
          obtain ⟨G, hG⟩ : ∃ G : Nat → Int, ∀ t, G t = dk[t]! := ⟨fun t => dk[t]!, fun _ => rfl⟩
          have HG := Lib.hid hG
          have HS : Hid (d0.size = d.size ∧ dk.size = d.size) := ⟨hs, hsk⟩
          obtain ⟨I3, hI3⟩ : ∃ x, x = scanUp (fun x => ltInt x dk[a]!) dk l k := ⟨_, rfl⟩
          obtain ⟨J3, hJ3⟩ : ∃ x, x = scanDown (fun x => !ltInt x dk[a]!) dk I3 l := ⟨_, rfl⟩
          have p1 : k ≤ I3 := by rw [hI3]; exact scanUp_ge _ _ _ _
          have p2 : J3 ≤ l := by rw [hJ3]; exact scanDown_le _ _ _ _
          have HI3 := Lib.hid hI3
          have HJ3 := Lib.hid hJ3
          clear hG hI3 hJ3
          go_upto_block 6 with fail
          go_cut [10] (fun s9 wx => s9 = .int .i64 I3 ∧ Hid (Sq w0 g o dk wx))
          case first =>
            go_wp2_with fail
            go_loopw [10] (fun s9 wx => ∃ (i1 : Nat), s9 = .int .i64 i1 ∧ k ≤ i1 ∧ i1 ≤ l + 1 ∧ Hid (Sq w0 g o dk wx) ∧ Hid (scanUp (fun x => ltInt x dk[a]!) dk l i1 = I3)) (fun s9 _ => l + 1 - (Go.Proofs.intOf s9).toNat)
            case atStart => exact ⟨k, rfl, Nat.le_refl _, hij, SK, HI3.out.symm⟩
            case round =>
              obtain ⟨i1, rfl, q1, q2, S1, HU⟩ := hrel
              obtain ⟨hc, hf⟩ := Sq.cells S1.out HR.out HG.out HS.out
              by_cases h3 : i1 ≤ l
              · have h3z : (i1 : Int) ≤ (l : Int) := by omega
                have h4 : i1 < d.size := by omega
                cases hl : ltInt (G i1) (G a)
                · have e : i1 = I3 := by rw [← HU.out]; exact (scanUp_end _ _ _ _ (.inr (by show ltInt dk[i1]! dk[a]! = false; rw [← HG.out, ← HG.out, hl]))).symm
                  have HE := Lib.hid e
                  clear e
                  go_wp2
                  (go_quiet (first | (go_at_call 47; refine Calls.quiet_of_same (Less_c _ _ _)))); have Sx := Lib.hid (Sq.drewN_ S1.out nq); clear hc hf; generalize wr.drewN nq = w2 at Sx ⊢; clear nq; obtain ⟨hc, hf⟩ := Sq.cells Sx.out HR.out HG.out HS.out
                  go_wp2
                  go_meet
                  exact ⟨by rw [HE.out], Sx.out⟩
                · go_wp2
                  (go_quiet (first | (go_at_call 47; refine Calls.quiet_of_same (Less_c _ _ _)))); have Sx := Lib.hid (Sq.drewN_ S1.out nq); clear hc hf; generalize wr.drewN nq = w2 at Sx ⊢; clear nq; obtain ⟨hc, hf⟩ := Sq.cells Sx.out HR.out HG.out HS.out
                  go_wp2
                  exact ⟨⟨i1 + 1, by go_num, by omega, by omega, Sx.out, by rw [← HU.out]; exact (scanUp_go _ _ _ _ h3 (by show ltInt dk[i1]! dk[a]! = true; rw [← HG.out, ← HG.out, hl])).symm⟩, by simp [Go.Proofs.intOf] <;> omega⟩
              · have h3z : ¬ (i1 : Int) ≤ (l : Int) := by omega
                have e : i1 = I3 := by rw [← HU.out]; exact (scanUp_end _ _ _ _ (.inl h3)).symm
                have HE := Lib.hid e
                clear e
                go_wp2
                (go_quiet (first | (go_at_call 47; refine Calls.quiet_of_same (Less_c _ _ _)))); have Sx := Lib.hid (Sq.drewN_ S1.out nq); clear hc hf; generalize wr.drewN nq = w2 at Sx ⊢; clear nq; obtain ⟨hc, hf⟩ := Sq.cells Sx.out HR.out HG.out HS.out
                go_wp2
                go_meet
                exact ⟨by rw [HE.out], Sx.out⟩
          case rest =>
            obtain ⟨rfl, S2⟩ := hcut
            have p3 : I3 ≤ l + 1 := by rw [HI3.out]; exact (scanUp_spec (fun x => ltInt x dk[a]!) dk l _ k rfl).2.1 hij
            have p4 : I3 ≤ J3 + 1 := by rw [HJ3.out]; exact (scanDown_spec (fun x => !ltInt x dk[a]!) dk I3 l).2.1 p3
            go_upto_block 8 with fail
            go_cut [11] (fun s10 wx => s10 = .int .i64 J3 ∧ Hid (Sq w0 g o dk wx))
            case first =>
              go_wp2_with fail
              go_loopw [11] (fun s10 wx => ∃ (j1 : Nat), s10 = .int .i64 j1 ∧ j1 ≤ l ∧ I3 ≤ j1 + 1 ∧ Hid (Sq w0 g o dk wx) ∧ Hid (scanDown (fun x => !ltInt x dk[a]!) dk I3 j1 = J3)) (fun s10 _ => (Go.Proofs.intOf s10).toNat)
              case atStart => exact ⟨l, rfl, Nat.le_refl _, p3, S2, HJ3.out.symm⟩
              case round =>
                obtain ⟨j1, rfl, q1, q2, S1, HU⟩ := hrel
                obtain ⟨hc, hf⟩ := Sq.cells S1.out HR.out HG.out HS.out
                by_cases h3 : I3 ≤ j1
                · have h3z : (I3 : Int) ≤ (j1 : Int) := by omega
                  have h4 : j1 < d.size := by omega
                  cases hl : ltInt (G j1) (G a)
                  · go_wp2
                    (go_quiet (first | (go_at_call 47; refine Calls.quiet_of_same (Less_c _ _ _)))); have Sx := Lib.hid (Sq.drewN_ S1.out nq); clear hc hf; generalize wr.drewN nq = w3 at Sx ⊢; clear nq; obtain ⟨hc, hf⟩ := Sq.cells Sx.out HR.out HG.out HS.out
                    go_wp2
                    exact ⟨⟨j1 - 1, by congr 1; omega, by omega, by omega, Sx.out, by rw [← HU.out]; exact (scanDown_go _ _ _ _ h3 (by omega) (by show (!ltInt dk[j1]! dk[a]!) = true; rw [← HG.out, ← HG.out, hl]; rfl)).symm⟩, by simp [Go.Proofs.intOf] <;> omega⟩
                  · have e : j1 = J3 := by rw [← HU.out]; exact (scanDown_end _ _ _ _ (.inr (by show (!ltInt dk[j1]! dk[a]!) = false; rw [← HG.out, ← HG.out, hl]; rfl))).symm
                    have HE := Lib.hid e
                    clear e
                    go_wp2
                    (go_quiet (first | (go_at_call 47; refine Calls.quiet_of_same (Less_c _ _ _)))); have Sx := Lib.hid (Sq.drewN_ S1.out nq); clear hc hf; generalize wr.drewN nq = w3 at Sx ⊢; clear nq; obtain ⟨hc, hf⟩ := Sq.cells Sx.out HR.out HG.out HS.out
                    go_wp2
                    go_meet
                    exact ⟨by rw [HE.out], Sx.out⟩
                · have h3z : ¬ (I3 : Int) ≤ (j1 : Int) := by omega
                  have e : j1 = J3 := by rw [← HU.out]; exact (scanDown_end _ _ _ _ (.inl h3)).symm
                  have HE := Lib.hid e
                  clear e
                  go_wp2
                  (go_quiet (first | (go_at_call 47; refine Calls.quiet_of_same (Less_c _ _ _)))); have Sx := Lib.hid (Sq.drewN_ S1.out nq); clear hc hf; generalize wr.drewN nq = w3 at Sx ⊢; clear nq; obtain ⟨hc, hf⟩ := Sq.cells Sx.out HR.out HG.out HS.out
                  go_wp2
                  go_meet
                  exact ⟨by rw [HE.out], Sx.out⟩
            case rest =>
              obtain ⟨rfl, S3⟩ := hcut
              obtain ⟨hc, hf⟩ := Sq.cells S3.out HR.out HG.out HS.out
              have b0 : J3 < d.size := by omega
              by_cases h5 : J3 < I3
              · have h5z : (J3 : Int) < (I3 : Int) := by omega
                have e : V = (J3, dk) := by rw [← HO.out]; exact part_break ltInt a k l dk HI3.out HJ3.out h5
                obtain ⟨u, hu⟩ := SW.c2 S3.out HR.out (by have := HS.out; omega) J3 a (by have := HS.out; omega) (by have := HS.out; omega) (.int .u64 (G a))
                have SN := Lib.hid (S3.out.exd HR.out HG.out J3 a (by have := HS.out; omega) (by have := HS.out; omega))
                have HE2 := Lib.hid e
                clear e
                go_wp2
                go_region
                all_goals go_wp2
                go_ret2
                rw [HE.out, HE2.out]
                exact ⟨rfl, SN.out⟩
              · have h5z : ¬ (J3 : Int) < (I3 : Int) := by omega
                have hlt := part_scans_lt ltInt a k l dk (by omega) HI3.out HJ3.out (by omega)
                have e : partLoop ltInt a (I3 + 1) (J3 - 1) (Go.Sort.swp dk I3 J3) = V := by rw [← HO.out]; exact (part_go ltInt a k l dk HI3.out HJ3.out h5).symm
                have HE2 := Lib.hid e
                have b1 : I3 < d.size := by omega
                have SN := Lib.hid (S3.out.exd HR.out HG.out I3 J3 (by have := HS.out; omega) (by have := HS.out; omega))
                clear e
                go_wp2
                go_region
                all_goals go_wp2
                exact ⟨⟨I3 + 1, J3 - 1, _, by go_num, by congr 1; omega, by omega, by omega, by omega, by rw [size_swp]; exact HS.out.2, SN.out, HE2.out⟩, by simp [Go.Proofs.intOf] <;> omega⟩
end BC
end Go.Proofs.Ytlcelocjfmclkaa
