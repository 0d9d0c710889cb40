/-
  The reference against package whole, pure: CutWhole tells wn; the number of what has no sign. Any int (ZOfInt).
-/
import Derived.Test.YtpmpkllpaceloaaDoorI7
import Derived.Test.YtpmpkllpaceloaaDoorI1
import Derived.Test.YtpmpkllpaceloaaDoorQ15
import Derived.Test.YtpmpkllpaceloaaDoorC13
namespace Go.Proofs.YtpmpkllpaceloaaDoor
set_option linter.unusedVariables false
set_option linter.unusedSimpArgs false
open Go.RowKit
set_option linter.unusedVariables false
set_option linter.unusedSimpArgs false
namespace IC
open Z (Nz Tz cmpv big)
open L NC NK DC RC SC QC ZC
theorem val_vz {x : Int} (h : fi x) : val x = vz x * sc 1 (-vt x) ∧ sc 1 0 = 2 ^ (vt x).toNat * sc 1 (-vt x) := by
  have ht := vt_bd x
  obtain ⟨e0, -⟩ := of_fit h
  constructor
  · unfold val S
    have e1 : OfD x = fin (sgm (F.sgn x) (mant x)) (F.ulp x) := by unfold OfD; rw [if_neg h.2.2]
    have hb := F.exq_bd x
    have hu : -60000 ≤ F.ulp x := by unfold F.ulp; split <;> omega
    rw [e1] at e0 ⊢
    rw [fin_sc hu e0, ← sc_mul1]
    exact (mk_sc _ _ hu).symm
  · rw [← sc_mul1, sc_two _ _ (by omega)]
    congr 1; omega
theorem cwN_wn {x : Int} (mode : Int) (h : fi x) : cwN x mode = wn x mode ∧ cwL x = lostW x := by
  obtain ⟨h1, h2⟩ := val_vz h
  have hp := sc_one_pos (-vt x)
  constructor
  · unfold wn
    rw [h1, h2, iw_scale (two_pos' _) hp]
    rfl
  · unfold cwL lostW
    rw [h1, h2]
    apply decide_eq_decide.2
    exact (not_congr (lost_scale hp)).symm
/-- without its sign, as a number -/
theorem abs_fin {x mode n : Int} (h : fi x) (hm : 0 ≤ mode ∧ mode ≤ 4) (hn : n = (wn x mode).natAbs) : Ok (fin n 0).d ∧ S (fin n 0).d = sc n 0 ∧ TX (fin n 0).d 0 = WX x mode % 9223372036854775808 := by
  obtain ⟨P, hP⟩ : ∃ P, P = sc 1 0 := ⟨_, rfl⟩
  have P0 : 0 < P := by rw [hP]; exact P_pos
  obtain ⟨r, r0, r1, hr⟩ := whole_rank (mode := mode) hP h rfl
  obtain ⟨h1, h2, h3⟩ := wx_fi h hm
  have hr : n * P = U r := by rw [hn]; unfold wn; rw [← hP]; exact hr
  have n0 : 0 ≤ n := by omega
  have um := U_max rfl
  have ul := U_le r0 r1
  have ur := U_pos r0
  have e0 : (fin n 0).e = 0 := fin_fit (k := 1) (by omega) (by omega) (by rw [sc_mul1 n 0, ← hP]; omega) (by rw [sc_mul1 n 0, ← hP]; omega)
  have hS : S (fin n 0).d = sc n 0 := fin_sc (by omega) e0
  have g := fin_ok n 0
  refine ⟨g, hS, ?_⟩
  have a := (A_abs (fin n 0).d).1 (by rw [hS, sc_mul1 n 0, ← hP]; omega)
  have hA : A (fin n 0).d = U r := by rw [a.1, hS, sc_mul1 n 0, ← hP]; exact hr
  have t := tow_exact r0 r1
  rw [← hA] at t
  have tx := (TX_of g (mode := 0) (by omega) t).1
  rw [ry_none, a.2] at tx
  have tx : TX (fin n 0).d 0 = r := tx
  rw [tx]
  -- the rank of what is told
  have v := val_eq h1
  have m := fi_mod h1
  have mu := U_pos (r := WX x mode % 9223372036854775808) (by omega)
  rw [h2, ← hP] at v
  refine U_inj r0 (by omega) ?_
  rw [← hr]
  have ab := abs_mul (n := wn x mode) P0
  rw [hn]
  unfold sgm at v
  rcases Int.lt_or_le (wn x mode) 0 with q | q
  · have := ab.2 q
    split at v <;> omega
  · have := ab.1 q
    split at v <;> omega
theorem wx_signed {x mode : Int} (h : fi x) (hm : 0 ≤ mode ∧ mode ≤ 4) : WX x mode = if decide (9223372036854775808 ≤ x) = true then WX x mode % 9223372036854775808 + 9223372036854775808 else WX x mode % 9223372036854775808 := by
  obtain ⟨h1, h2, h3⟩ := wx_fi h hm
  have b0 := h1.1
  have b1 := h1.2.1
  have i1 := F.sgn_iff (WX x mode); have i2 := F.sgn_iff' (WX x mode)
  have j1 := F.sgn_iff x; have j2 := F.sgn_iff' x
  rw [h3] at i1 i2
  cases hc : F.sgn x
  · have q1 := i2.1 hc; have q2 := j2.1 hc
    rw [if_neg (by simp; omega)]; omega
  · have q1 := i1.1 hc; have q2 := j1.1 hc
    rw [if_pos (by simp; omega)]; omega
theorem ZOfInt_c (n : Int) (w : World) (h0 : -9223372036854775808 ≤ n) (h1 : n ≤ 9223372036854775807) : Calls Tryd.prog 14 #[.int .i64 n] w (RetZ w n) := by
  have CN := Lib.hid (N_c n h0 h1 (w.alloc (.cells #[.bool false, .slice none 0 0] 34)))
  clear h0 h1
  go_enter Tryd.func14, Tryd.ntmps14
  go_wp2_with (first | (go_at_call 26; (with_reducible refine (CN.out).mono ?_); rintro e w1 ⟨_, rfl, ⟨b1, A1, n1, c1, rfl, hv1⟩, hb1⟩ ; obtain ⟨hc1, hf1⟩ := bcell hb1 ; have hz1 := hb1.size))
  have bw : Below w.heap.size w w1 := ((Below.refl _ _).alloc (Nat.le_refl _) _).trans (hb1.mono (by simp))
  have c0 : w1.cell? ⟨w.heap.size, 0, none⟩ = some (.bool false) := by rw [hb1.cell (by simp)]; simp [go_sem]
  have c1' : w1.cell? ⟨w.heap.size, 1, none⟩ = some (.slice none 0 0) := by rw [hb1.cell (by simp)]; simp [go_sem]
  exact bodyPost_ret (v := .agg #[.bool b1, .slice A1 n1 c1]) (by simp [results, Tryd.results14, go_sem, c0, c1']) rfl (RetZ.cell hv1 (by simp) (by omega) c0 c1' bw)
end IC
end Go.Proofs.YtpmpkllpaceloaaDoor
