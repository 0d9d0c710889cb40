/-
  Package prod: twice three, and one.
-/
import Derived.Test.YtjplemfdhhkbaaaDoorP6
namespace Go.Proofs.YtjplemfdhhkbaaaDoor
set_option linter.unusedVariables false
set_option linter.unusedSimpArgs false
open Go.RowKit
set_option linter.unusedVariables false
set_option linter.unusedSimpArgs false
namespace PC
open L NC NK DC RC SC
theorem val_u {e f w u : Int} (he : 1 ≤ e ∧ e ≤ 2046) (hf : 0 ≤ f ∧ f ≤ 4503599627370495) (hw : w = F.mk false e f) {k : Nat} (hu : -60000 ≤ u) (hk : e - 1075 = u + k) : fi w ∧ val w = (4503599627370496 + f) * 2 ^ k * sc 1 u := by
  have h := mk_val he hf hw
  refine ⟨h.1, ?_⟩
  rw [h.2, hk]
  unfold sgm
  rw [← sc_mul1, sc_shift _ _ _ hu]
  simp
/-- twice three is six; and one is seven -/
theorem six {T H Sx Sv O : Int} (hT : T = 4611686018427387904) (hH : H = 4613937818241073152) (h6 : Sx = 4618441417868443648) (h7 : Sv = 4619567317775286272) (hO : O = 4607182418800017408) :
    MT T H 0 = (Sx, false, 0) ∧ FT T H O 0 = (Sv, false, 0) := by
  obtain ⟨K, hK⟩ : ∃ K : Nat, K = 60000 := ⟨_, rfl⟩
  obtain ⟨u, hu⟩ : ∃ u : Int, u = -52 := ⟨_, rfl⟩
  have vT := val_u (e := 1024) (f := 0) (w := T) (u := u) (k := 1) (by omega) (by omega) (by rw [hT]; decide) (by omega) (by omega)
  have vH := val_u (e := 1024) (f := 2251799813685248) (w := H) (u := u) (k := 1) (by omega) (by omega) (by rw [hH]; decide) (by omega) (by omega)
  have v6 := val_u (e := 1025) (f := 2251799813685248) (w := Sx) (u := u) (k := 2) (by omega) (by omega) (by rw [h6]; decide) (by omega) (by omega)
  have v7 := val_u (e := 1025) (f := 3377699720527872) (w := Sv) (u := u) (k := 2) (by omega) (by omega) (by rw [h7]; decide) (by omega) (by omega)
  have vO := val_u (e := 1023) (f := 0) (w := O) (u := u) (k := 0) (by omega) (by omega) (by rw [hO]; decide) (by omega) (by omega)
  have o := one_val hO hK
  have hE := sc_one_pos u
  rw [vO.2] at o
  rw [show (2 : Int) ^ 1 = 2 by decide] at vT vH
  rw [show (2 : Int) ^ 2 = 4 by decide] at v6 v7
  rw [show (2 : Int) ^ 0 = 1 by decide] at o
  have eO : val O = 4503599627370496 * sc 1 u := by rw [vO.2]; simp
  have e0 := o.2.1
  generalize sc 1 u = E at *
  have p := pd_p vT.1 vH.1 hK
  have eS : S (PD T H).d = val Sx := by
    apply K_inj (K := K)
    rw [p.2.2, vT.2, vH.2, v6.2, ← e0]
    generalize (2 : Int) ^ K = P at *
    grind
  have b6 := of_fit v6.1
  have ed : (PD T H).d = (OfD Sx).d := S_inj p.2.1.ok b6.2.ok eS
  have nb : (bc T H).2 = false := by
    rw [bc_no ⟨vT.1.1, vT.1.2.1⟩ ⟨vH.1.1, vH.1.2.1⟩]
    refine ⟨vT.1, vH.1, ?_, ?_⟩
    · rw [vT.2]; omega
    · rw [vH.2]; omega
  have s6 := same_p v6.1.1 v6.1.2.1 v6.1.2.2 (mode := 0) (by omega)
  have s7 := same_p v7.1.1 v7.1.2.1 v7.1.2.2 (mode := 0) (by omega)
  constructor
  · rw [MT_fi (by omega) nb, ed, s6.2.1]
    rcases s6.2.2 with h1 | ⟨-, h, -⟩
    · rw [eq_of_beq h1]
    · omega
  · have fo : fi O := o.1
    rw [FT_fi (by omega) nb fo.2.2, if_neg (fun h => by have := h.2; omega)]
    have f := fd_p vT.1 vH.1 fo
    have b7 := of_fit v7.1
    have ef : fd T H O = (OfD Sv).d := S_inj f.1.ok b7.2.ok (by
      rw [f.2, eS, v6.2, eO]
      show _ = val Sv
      rw [v7.2]
      omega)
    rw [ef, s7.2.1]
    rcases s7.2.2 with h1 | ⟨-, h, -⟩
    · rw [eq_of_beq h1]
    · omega
theorem livesP_c (w : World) (hT : TabD w) : Calls Tryd.prog 46 #[] w fun e w' => e = .returned (.bool true) ∧ Below w.heap.size w w' := by
  obtain ⟨e1, e2⟩ := six rfl rfl rfl rfl rfl
  have A1 := Lib.hid (Mul_c 4611686018427387904 4613937818241073152 0 w (by omega) (by omega) hT)
  have A2 : Hid (∀ W, Below w.heap.size w W → Calls Tryd.prog 50 #[.int .u64 4611686018427387904, .int .u64 4613937818241073152, .int .u64 4607182418800017408, .int .i64 0] W (DC.RetB W (ATv (FT 4611686018427387904 4613937818241073152 4607182418800017408 0)))) := fun W hW => Fma_c _ _ _ 0 W (by omega) (by omega) (by omega) (hT.below hW)
  rw [e1] at A1
  rw [e2] at A2
  unfold ATv at A1 A2
  clear hT e1 e2
  go_enter Tryd.func46, Tryd.ntmps46
  go_wp2_with (first
    | (go_at_call 45; (with_reducible refine (A1.out).mono ?_); rintro e w1 ⟨rfl, hb⟩; have D := Lib.hid hb; clear hb)
    | (go_at_call 50; (with_reducible refine (A2.out _ D.out).mono ?_); rintro e w2 ⟨rfl, hb⟩; have D := Lib.hid (D.out.trans (hb.mono D.out.size)); clear hb)
    | (go_at_call 49; (with_reducible refine (ok2' w2 0 0 true rfl).mono ?_); rintro e wo ⟨rfl, hw⟩; have s := al1 w2 (.cells #[.int .i64 0, .int .i64 0] 26); rw [hw] at s; clear hw; have D := Lib.hid (D.out.trans (s.mono D.out.size)); clear s))
  go_ret
  exact ⟨rfl, D.out⟩
end PC
end Go.Proofs.YtjplemfdhhkbaaaDoor
