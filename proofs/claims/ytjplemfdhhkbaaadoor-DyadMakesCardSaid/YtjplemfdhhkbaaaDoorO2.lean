/-
  The reference: just what is to be told of a number.
-/
import Derived.Test.YtjplemfdhhkbaaaDoorO1
import Derived.Test.YtjplemfdhhkbaaaDoorV8
import Derived.Test.YtjplemfdhhkbaaaDoorV6
namespace Go.Proofs.YtjplemfdhhkbaaaDoor
set_option linter.unusedVariables false
set_option linter.unusedSimpArgs false
open Go.RowKit
set_option linter.unusedVariables false
set_option linter.unusedSimpArgs false
namespace QC
open Z (Nz Tz cmpv big)
open ZC DC
theorem lim_pow : (4294967296 : Int) ^ 400 = 2 ^ 12800 := by
  rw [show (4294967296 : Int) = 2 ^ 32 by decide, ← Int.pow_mul]
/-- what a number tells depends on what it's worth only -/
theorem fin_eq {m x m' x' : Int} (h : sc m x = sc m' x') (hx : -60000 ≤ x) (hx' : -60000 ≤ x') : fin m x = fin m' x' := by
  by_cases h0 : m = 0
  · subst h0
    have h1 : m' = 0 := sc_zero.1 (h ▸ sc_zero.2 rfl)
    subst h1
    rw [fin_zero, fin_zero]
  · have h1 : m' ≠ 0 := fun h2 => h0 (sc_zero.1 (h.trans (sc_zero.2 h2)))
    obtain ⟨o, e, ho⟩ := tz_spec h0
    obtain ⟨p, e', hp⟩ := tz_spec h1
    generalize tz m = k at e
    generalize tz m' = k' at e'
    subst e
    subst e'
    rw [sc_shift _ _ _ hx, sc_shift _ _ _ hx'] at h
    obtain ⟨a, b⟩ := sc_inj h (.inr ho) (.inr hp) (by omega) (by omega)
    rw [fin_shift, fin_shift, a, b]
/-- its odd part, and how often it was doubled -/
theorem twos {z : Int} {M : Nat} (hz : z ≠ 0) (hM : z.natAbs < 2 ^ M) (hM2 : M ≤ 800000) : ∃ (N : Nat) (o : Int), z = o * 2 ^ N ∧ o % 2 = 1 ∧ N < M ∧ o.natAbs < big 900000 ∧
    (∀ W b A n c, ZL W b A n c z → Calls Tryd.prog 65 #[.agg #[.bool b, .slice A n c]] W fun e w' => ∃ b1 A1 n1 c1, e = .returned (.tuple #[.int .i64 (N : Int), .agg #[.bool b1, .slice A1 n1 c1]]) ∧ ZL w' b1 A1 n1 c1 o ∧ Below W.heap.size W w') := by
  obtain ⟨o, e, ho⟩ := tz_spec hz
  have hT : Tw z o (tz z) := ⟨e, odd_ne ho⟩
  have hb : z.natAbs < big 900000 := lt_big hM (by omega) (by decide)
  refine ⟨tz z, o, e, ho, hT.lt hM, hT.big hb, fun W b A n c hv => ?_⟩
  refine (ZTwos_c b A n c z M W hv hz hM hb (by omega)).mono ?_
  rintro e' w' ⟨N, y, b1, A1, n1, c1, rfl, h1, h2, h3, h4, h5⟩
  have hy : y % 2 = 1 := by omega
  obtain ⟨r1, r2⟩ := odd_unique (h2.1.symm.trans e) hy ho
  subst r1
  rw [← r2]
  exact ⟨_, _, _, _, rfl, h1, h5⟩

set_option maxRecDepth 100000 in
/-- zero -/
theorem told_zero (t : Int) (bq : Bool) (Aq : Option Addr) (cq : Nat) (A : Option Addr) (c : Nat) (w : World) :
    Calls Tryd.prog 21 #[.agg #[.bool false, .slice A 0 c, .int .i64 0], .int .i64 0, .agg #[.bool bq, .slice Aq 0 cq, .int .i64 t]] w (DC.RetB w (.bool true)) := by
  have D0 : Below w.heap.size w ((w.alloc (.cells #[.bool false, .slice A 0 c, .int .i64 0] 25)).alloc (.cells #[.bool bq, .slice Aq 0 cq, .int .i64 t] 42)) := ((Below.refl _ _).alloc (Nat.le_refl _) _).alloc (by simp) _
  go_enter Tryd.func21, Tryd.ntmps21
  go_wp2
  go_ret
  exact ⟨rfl, D0⟩
set_option maxRecDepth 100000 in
set_option maxHeartbeats 4000000 in
/-- a number that lies within the bounds no more -/
theorem told_over (t z o : Int) (N : Nat) (T : Nat) (bq : Bool) (Aq : Option Addr) (nq cq : Nat) (A : Option Addr) (c : Nat) (w : World) (hv : ZL w bq Aq nq cq z) (hn : 0 < nq) (ht : 0 ≤ t ∧ t ≤ T) (hT : T ≤ 50000) (hN : N < 800000) (ho : o.natAbs < big 900000)
    (TW : ∀ W b A n c, ZL W b A n c z → Calls Tryd.prog 65 #[.agg #[.bool b, .slice A n c]] W fun e w' => ∃ b1 A1 n1 c1, e = .returned (.tuple #[.int .i64 (N : Int), .agg #[.bool b1, .slice A1 n1 c1]]) ∧ ZL w' b1 A1 n1 c1 o ∧ Below W.heap.size W w')
    (hi : ¬ inb o (-t + N)) :
    Calls Tryd.prog 21 #[.agg #[.bool false, .slice A 0 c, .int .i64 0], .int .i64 2, .agg #[.bool bq, .slice Aq nq cq, .int .i64 t]] w (DC.RetB w (.bool true)) := by
  obtain ⟨W0, hW0⟩ : ∃ W0, (w.alloc (.cells #[.bool false, .slice A 0 c, .int .i64 0] 25)).alloc (.cells #[.bool bq, .slice Aq nq cq, .int .i64 t] 42) = W0 := ⟨_, rfl⟩
  have B1 := (Blk.new w 25 #[.bool false, .slice A 0 c, .int .i64 0]).alloc (.cells #[.bool bq, .slice Aq nq cq, .int .i64 t] 42)
  have B2 := Blk.new (w.alloc (.cells #[.bool false, .slice A 0 c, .int .i64 0] 25)) 42 #[.bool bq, .slice Aq nq cq, .int .i64 t]
  have V0 := (hv.alloc (.cells #[.bool false, .slice A 0 c, .int .i64 0] 25)).alloc (.cells #[.bool bq, .slice Aq nq cq, .int .i64 t] 42)
  have D0 : Below w.heap.size w ((w.alloc (.cells #[.bool false, .slice A 0 c, .int .i64 0] 25)).alloc (.cells #[.bool bq, .slice Aq nq cq, .int .i64 t] 42)) := ((Below.refl _ _).alloc (Nat.le_refl _) _).alloc (by simp) _
  have e1 : (w.alloc (.cells #[.bool false, .slice A 0 c, .int .i64 0] 25)).heap.size = w.heap.size + 1 := by simp
  rw [e1] at B2
  rw [hW0] at B1 B2 V0 D0
  have KB : Hid (∀ W, Below W0.heap.size W0 W → W.cell? ⟨w.heap.size + 1, 2, none⟩ = some (.int .i64 t)) := fun W h => (B2.below h B2.lt).at_ 2 rfl
  have TW0 := Lib.hid (TW W0 _ _ _ _ V0)
  have HW0 := Lib.hid hW0
  have D0 := Lib.hid D0
  have hn1 : ((nq : Int) == 0) = false := by rw [beq_eq_false_iff_ne]; omega
  have i1 : IntKind.i64.wrap ((N : Int) - t) = (N : Int) - t := IntWalk.i64_in _ (by omega)
  have HI := Lib.hid hi
  have HO := Lib.hid ho
  clear hv hn TW V0 B1 B2 e1 hW0 hi ho
  go_enter Tryd.func21, Tryd.ntmps21
  go_upto_region 5 with (first
    | (go_at_call 65; rw [HW0.out]; (with_reducible refine (TW0.out).mono ?_); rintro e w1 ⟨b1, A1, n1, c1, rfl, hv1, hb⟩; have D1 := Lib.hid hb; clear hb; have k2 := KB.out _ D1.out))
  have D2 : Below W0.heap.size W0 (w1.alloc (.cells #[.bool b1, .slice A1 n1 c1] 40)) := D1.out.alloc D1.out.size _
  have R1 := Blk.new w1 40 #[.bool b1, .slice A1 n1 c1]
  have v1 := Lib.hid (hv1.alloc (.cells #[.bool b1, .slice A1 n1 c1] 40))
  have k2 := KB.out _ D2
  have r0 := R1.at_ 0 rfl; have r1 := R1.at_ 1 rfl
  have D2 := Lib.hid D2
  obtain ⟨W1, hW1⟩ : ∃ W1, w1.alloc (.cells #[.bool b1, .slice A1 n1 c1] 40) = W1 := ⟨_, rfl⟩
  rw [hW1] at D2 v1 k2 r0 r1 ⊢
  have DD := Lib.hid (D0.out.trans (D2.out.mono D0.out.size))
  clear hW1 R1 hv1 D1 KB TW0 HW0
  by_cases hb : -10000 ≤ (N : Int) - t ∧ (N : Int) - t ≤ 10000
  · have BT : Hid (Calls Tryd.prog 24 #[.int .i64 ((N : Int) - t), .int .i64 (-10000), .int .i64 10000] W1 fun e w' => e = .returned (.bool true) ∧ W1 = w') := FloatR.Between_t _ _ _ hb.1 hb.2 W1
    obtain ⟨cc, hcc⟩ : ∃ cc, cmpv (o.natAbs : Int) (2 ^ 12800) = cc := ⟨_, rfl⟩
    have hc0 : cc ≥ 0 := by
      have : ¬ ((o.natAbs : Int) < 2 ^ 12800) := fun h => HI.out ⟨by rw [lim_pow]; generalize (2 : Int) ^ 12800 = P at *; omega, by rw [lim_pow]; generalize (2 : Int) ^ 12800 = P at *; omega, by omega, by omega⟩
      rw [← hcc]
      unfold cmpv
      rw [if_neg this]
      split <;> decide
    have PW : Hid (∀ W, Calls Tryd.prog 68 #[.int .i64 12800] W (RetZ W (2 ^ 12800))) := fun W => ZPow_c 12800 12800 W (by decide) (by decide) (by decide)
    have CM : Hid (∀ W va vb, ZV W va (o.natAbs : Int) → ZV W vb (2 ^ 12800) → Calls Tryd.prog 66 #[va, vb] W fun e w' => e = .returned (.int .i64 cc) ∧ Below W.heap.size W w') := fun W va vb h1 h2 => by
      rw [← hcc]
      exact ZCmp_c va vb _ _ W h1 h2 (by have := HO.out; have := big_mono (show 900000 ≤ 1000000 by decide); simp only [Int.natAbs_natCast]; omega) (pow2_bigN 12800 1000000 (by decide) (by decide))
    clear hcc hb
    go_wp2_with (first
      | (go_at_call 24; (with_reducible refine (BT.out).mono ?_); rintro e w3 ⟨rfl, rfl⟩)
      | (go_at_call 67; (with_reducible refine (ZAbs_c _ _ _ v1.out.v).mono ?_); rintro e w4 ⟨va, rfl, hva, hb4⟩; have DD := Lib.hid (DD.out.trans (hb4.mono DD.out.size)); have hva := Lib.hid hva; clear hb4)
      | (go_at_call 68; (with_reducible refine (PW.out _).mono ?_); rintro e w5 ⟨vb, rfl, ⟨b5, A5, n5, c5, rfl, hvb⟩, hb5⟩; have hva := Lib.hid (zv_below hva.out hb5); have DD := Lib.hid (DD.out.trans (hb5.mono DD.out.size)); have hvb := Lib.hid hvb.v; clear hb5)
      | (go_at_call 66; (with_reducible refine (CM.out _ _ _ hva.out hvb.out).mono ?_); rintro e w6 ⟨rfl, hb6⟩; have DD := Lib.hid (DD.out.trans (hb6.mono DD.out.size)); clear hb6))
    go_ret
    exact ⟨rfl, DD.out⟩
  · have BT : Hid (Calls Tryd.prog 24 #[.int .i64 ((N : Int) - t), .int .i64 (-10000), .int .i64 10000] W1 fun e w' => e = .returned (.bool false) ∧ W1 = w') := FloatR.Between_f _ _ _ (by omega) W1
    clear hb
    go_wp2_with (first
      | (go_at_call 24; (with_reducible refine (BT.out).mono ?_); rintro e w3 ⟨rfl, rfl⟩))
    go_ret
    exact ⟨rfl, DD.out⟩
set_option maxRecDepth 100000 in
set_option maxHeartbeats 8000000 in
/-- a number within the bounds -/
theorem told_in (t z o : Int) (N T M : Nat) (b : Bool) (A : Option Addr) (n c : Nat) (bq : Bool) (Aq : Option Addr) (nq cq : Nat) (w : World) (hG : GV w b A n c (-t + N) ⟨0, o, -t + N⟩) (hv : ZL w bq Aq nq cq z) (hn : 0 < nq) (ht : 0 ≤ t ∧ t ≤ T) (hT : T ≤ 50000) (hM : z.natAbs < 2 ^ M) (hM2 : M ≤ 340000) (hN : N < 800000) (ho : o.natAbs < big 900000) (ho1 : o % 2 = 1) (hz : z = o * 2 ^ N)
    (TW : ∀ W b A n c, ZL W b A n c z → Calls Tryd.prog 65 #[.agg #[.bool b, .slice A n c]] W fun e w' => ∃ b1 A1 n1 c1, e = .returned (.tuple #[.int .i64 (N : Int), .agg #[.bool b1, .slice A1 n1 c1]]) ∧ ZL w' b1 A1 n1 c1 o ∧ Below W.heap.size W w')
    (hi : inb o (-t + N)) :
    Calls Tryd.prog 21 #[.agg #[.bool b, .slice A n c, .int .i64 (-t + N)], .int .i64 0, .agg #[.bool bq, .slice Aq nq cq, .int .i64 t]] w (DC.RetB w (.bool true)) := by
  have hn0 : 0 < n := by
    rcases Nat.eq_zero_or_pos n with h | h
    · have := (gv_zero hG).1 h
      have : o = 0 := this
      omega
    · exact h
  have hx : -t + (N : Int) = (N : Int) - t := by omega
  rw [hx] at hG hi ⊢
  obtain ⟨X, hX⟩ : ∃ X, (N : Int) - t = X := ⟨_, rfl⟩
  have hS : sc z (-t) = S ⟨0, o, X⟩ := by
    rw [hz, sc_shift _ _ _ (by omega), hx, hX]; rfl
  have bX : -10000 ≤ X ∧ X ≤ 10000 := by rw [← hX]; exact hi.2.2
  obtain ⟨W0, hW0⟩ : ∃ W0, (w.alloc (.cells #[.bool b, .slice A n c, .int .i64 X] 25)).alloc (.cells #[.bool bq, .slice Aq nq cq, .int .i64 t] 42) = W0 := ⟨_, rfl⟩
  have B1 := (Blk.new w 25 #[.bool b, .slice A n c, .int .i64 X]).alloc (.cells #[.bool bq, .slice Aq nq cq, .int .i64 t] 42)
  have B2 := Blk.new (w.alloc (.cells #[.bool b, .slice A n c, .int .i64 X] 25)) 42 #[.bool bq, .slice Aq nq cq, .int .i64 t]
  have V0 := (hv.alloc (.cells #[.bool b, .slice A n c, .int .i64 X] 25)).alloc (.cells #[.bool bq, .slice Aq nq cq, .int .i64 t] 42)
  have D0 : Below w.heap.size w ((w.alloc (.cells #[.bool b, .slice A n c, .int .i64 X] 25)).alloc (.cells #[.bool bq, .slice Aq nq cq, .int .i64 t] 42)) := ((Below.refl _ _).alloc (Nat.le_refl _) _).alloc (by simp) _
  have e1 : (w.alloc (.cells #[.bool b, .slice A n c, .int .i64 X] 25)).heap.size = w.heap.size + 1 := by simp
  rw [e1] at B2
  rw [hX] at hG hi ⊢
  rw [hW0] at B1 B2 V0 D0
  have DV0 := hG.dv.below D0
  have KB : Hid (∀ W, Below W0.heap.size W0 W → (W.cell? ⟨w.heap.size, 0, none⟩ = some (.bool b) ∧ W.cell? ⟨w.heap.size, 1, none⟩ = some (.slice A n c) ∧ W.cell? ⟨w.heap.size, 2, none⟩ = some (.int .i64 X)) ∧ W.cell? ⟨w.heap.size + 1, 0, none⟩ = some (.bool bq) ∧ W.cell? ⟨w.heap.size + 1, 1, none⟩ = some (.slice Aq nq cq) ∧ W.cell? ⟨w.heap.size + 1, 2, none⟩ = some (.int .i64 t)) := fun W h => ⟨⟨(B1.below h B1.lt).at_ 0 rfl, (B1.below h B1.lt).at_ 1 rfl, (B1.below h B1.lt).at_ 2 rfl⟩, (B2.below h B2.lt).at_ 0 rfl, (B2.below h B2.lt).at_ 1 rfl, (B2.below h B2.lt).at_ 2 rfl⟩
  have DR : Hid (∀ W g, Below W0.heap.size W0 W → Blk W g 25 #[.bool b, .slice A n c, .int .i64 X] → Calls Tryd.prog 16 #[.slice (some ⟨g, 0, none⟩) 1 1] W (DC.RetB W (.int .i64 0))) := fun W g h h4 =>
    VD.DyadRight1_c b A n c X _ g W (DV0.below h) h4.lt (h4.at_ 0 rfl) (h4.at_ 1 rfl) (h4.at_ 2 rfl)
  have QO : Hid (∀ W, Below W0.heap.size W0 W → Calls Tryd.prog 34 #[.agg #[.bool b, .slice A n c, .int .i64 X]] W (RetS 22800 10000 W (S ⟨0, o, X⟩))) := fun W h => QOf_s _ _ W (DV0.below h) rfl
  have QC0 : Hid (∀ W u, Below W0.heap.size W0 W → QS 22800 10000 W u (S ⟨0, o, X⟩) → Calls Tryd.prog 35 #[u, .agg #[.bool bq, .slice Aq nq cq, .int .i64 t]] W fun e w' => e = .returned (.int .i64 0) ∧ Below W.heap.size W w') := fun W u h hu => by
    have h3 : QS M T W (.agg #[.bool bq, .slice Aq nq cq, .int .i64 t]) (S ⟨0, o, X⟩) := ⟨z, t, ⟨bq, Aq, nq, cq, rfl, V0.below h⟩, hM, ht.1, ht.2, hS⟩
    have h4 := QCmp_s hu h3 (by omega) (by omega) (by omega) (by omega)
    rwa [Z.cmpv_eq rfl] at h4
  have TW0 := Lib.hid (TW W0 _ _ _ _ V0)
  have HW0 := Lib.hid hW0
  have D0 := Lib.hid D0
  have hn1 : ((nq : Int) == 0) = false := by rw [beq_eq_false_iff_ne]; omega
  have hn2 : ((n : Int) == 0) = false := by rw [beq_eq_false_iff_ne]; omega
  have i1 : IntKind.i64.wrap ((N : Int) - t) = X := by rw [hX]; exact IntWalk.i64_in _ (by omega)
  have BT : Hid (∀ W, Calls Tryd.prog 24 #[.int .i64 X, .int .i64 (-10000), .int .i64 10000] W fun e w' => e = .returned (.bool true) ∧ W = w') := fun W => FloatR.Between_t _ _ _ bX.1 bX.2 W
  obtain ⟨cc, hcc⟩ : ∃ cc, cmpv (o.natAbs : Int) (2 ^ 12800) = cc := ⟨_, rfl⟩
  have hc0 : ¬ cc ≥ 0 := by
    have : (o.natAbs : Int) < 2 ^ 12800 := by
      have h1 := hi.1
      have h2 := hi.2.1
      rw [lim_pow] at h1 h2
      generalize (2 : Int) ^ 12800 = P at *
      omega
    rw [← hcc, Z.cmpv_lt this]
    decide
  have PW : Hid (∀ W, Calls Tryd.prog 68 #[.int .i64 12800] W (RetZ W (2 ^ 12800))) := fun W => ZPow_c 12800 12800 W (by decide) (by decide) (by decide)
  have CM : Hid (∀ W va vb, ZV W va (o.natAbs : Int) → ZV W vb (2 ^ 12800) → Calls Tryd.prog 66 #[va, vb] W fun e w' => e = .returned (.int .i64 cc) ∧ Below W.heap.size W w') := fun W va vb h1 h2 => by
    rw [← hcc]
    exact ZCmp_c va vb _ _ W h1 h2 (by have := big_mono (show 900000 ≤ 1000000 by decide); simp only [Int.natAbs_natCast]; omega) (pow2_bigN 12800 1000000 (by decide) (by decide))
  clear hn hn0 TW V0 B1 B2 e1 hW0 hi ho hcc hS hG hv hz hX hx DV0 bX ho1 hM
  go_enter Tryd.func21, Tryd.ntmps21
  go_upto_region 5 with (first
    | (go_at_call 65; rw [HW0.out]; (with_reducible refine (TW0.out).mono ?_); rintro e w1 ⟨b1, A1, n1, c1, rfl, hv1, hb⟩; have D1 := Lib.hid hb; clear hb; have k2 := (KB.out _ D1.out).2.2.2))
  have D2 : Below W0.heap.size W0 (w1.alloc (.cells #[.bool b1, .slice A1 n1 c1] 40)) := D1.out.alloc D1.out.size _
  have R1 := Blk.new w1 40 #[.bool b1, .slice A1 n1 c1]
  have v1 := Lib.hid (hv1.alloc (.cells #[.bool b1, .slice A1 n1 c1] 40))
  have k2 := (KB.out _ D2).2.2.2
  have r0 := R1.at_ 0 rfl; have r1 := R1.at_ 1 rfl
  have D2 := Lib.hid D2
  obtain ⟨W1, hW1⟩ : ∃ W1, w1.alloc (.cells #[.bool b1, .slice A1 n1 c1] 40) = W1 := ⟨_, rfl⟩
  rw [hW1] at D2 v1 k2 r0 r1 ⊢
  clear hW1 R1 hv1 D1 TW0 HW0
  go_upto_region 8 with (first
    | (go_at_call 24; (with_reducible refine (BT.out _).mono ?_); rintro e w3 ⟨rfl, rfl⟩)
    | (go_at_call 67; (with_reducible refine (ZAbs_c _ _ _ v1.out.v).mono ?_); rintro e w4 ⟨va, rfl, hva, hb4⟩; have D2 := Lib.hid (D2.out.trans (hb4.mono D2.out.size)); have hva := Lib.hid hva; clear hb4)
    | (go_at_call 68; (with_reducible refine (PW.out _).mono ?_); rintro e w5 ⟨vb, rfl, ⟨b5, A5, n5, c5, rfl, hvb⟩, hb5⟩; have hva := Lib.hid (zv_below hva.out hb5); have D2 := Lib.hid (D2.out.trans (hb5.mono D2.out.size)); have hvb := Lib.hid hvb.v; clear hb5)
    | (go_at_call 66; (with_reducible refine (CM.out _ _ _ hva.out hvb.out).mono ?_); rintro e w6 ⟨rfl, hb6⟩; have D2 := Lib.hid (D2.out.trans (hb6.mono D2.out.size)); clear hb6))
  have D2 := Lib.hid D2.out.drew
  (refine wp_region_L (S := fun w' => (w'.cell? ⟨w.heap.size, 0, none⟩ = some (.bool b) ∧ w'.cell? ⟨w.heap.size, 1, none⟩ = some (.slice A n c) ∧ w'.cell? ⟨w.heap.size, 2, none⟩ = some (.int .i64 X)) ∧ w'.cell? ⟨w.heap.size + 1, 0, none⟩ = some (.bool bq) ∧ w'.cell? ⟨w.heap.size + 1, 1, none⟩ = some (.slice Aq nq cq) ∧ w'.cell? ⟨w.heap.size + 1, 2, none⟩ = some (.int .i64 t)) (nl := 1000000) (by kernel_rfl) ?_ (fun hHeld => ?_); focus (exact KB.out _ D2.out))
  (refine wpAnyL_take (i := 0) (oi := _) (v := ?_) rfl (by kernel_rfl) (by kernel_rfl) (by kernel_rfl) (fun _ _ _ h => h) (Or.inl ⟨by first | rfl | kernel_rfl, ?hy1⟩) (by assumption) ?rs1; (case hy1 => (intro w hSw; (try dsimp only at hSw); go_simp; first | done | with_reducible rfl)); case' rs1 => (simp only [List.getElem_toArray, List.getElem_cons_zero, List.getElem_cons_succ, Act.put, List.setIfInBounds_toArray, List.set_cons_zero, List.set_cons_succ])); (refine wpAnyL_take (i := 1) (oi := _) (v := ?_) rfl (by kernel_rfl) (by kernel_rfl) (by kernel_rfl) (fun _ _ _ h => h) (Or.inl ⟨by first | rfl | kernel_rfl, ?hy2⟩) (by assumption) ?rs2; (case hy2 => (intro w hSw; (try dsimp only at hSw); go_simp; first | done | with_reducible rfl)); case' rs2 => (simp only [List.getElem_toArray, List.getElem_cons_zero, List.getElem_cons_succ, Act.put, List.setIfInBounds_toArray, List.set_cons_zero, List.set_cons_succ])); (refine wpAnyL_take (i := 2) (oi := _) (v := ?_) rfl (by kernel_rfl) (by kernel_rfl) (by kernel_rfl) (fun _ _ _ h => h) (Or.inl ⟨by first | rfl | kernel_rfl, ?hy3⟩) (by assumption) ?rs3; (case hy3 => (intro w hSw; (try dsimp only at hSw); go_simp; first | done | with_reducible rfl)); case' rs3 => (simp only [List.getElem_toArray, List.getElem_cons_zero, List.getElem_cons_succ, Act.put, List.setIfInBounds_toArray, List.set_cons_zero, List.set_cons_succ])); (refine wpAnyL_take (i := 3) (oi := _) (v := ?_) rfl (by kernel_rfl) (by kernel_rfl) (by kernel_rfl) (fun _ _ _ h => h) (Or.inl ⟨by first | rfl | kernel_rfl, ?hy4⟩) (by assumption) ?rs4; (case hy4 => (intro w hSw; (try dsimp only at hSw); go_simp; first | done | with_reducible rfl)); case' rs4 => (simp only [List.getElem_toArray, List.getElem_cons_zero, List.getElem_cons_succ, Act.put, List.setIfInBounds_toArray, List.set_cons_zero, List.set_cons_succ])); skip
  (refine wpAnyL_one (i := 4) (o := _) (by kernel_rfl) rfl (fun K hK => ?_); clear hHeld; simp only [List.getElem_toArray, List.getElem_cons_zero, List.getElem_cons_succ]; go_simp; refine hK.out _ _ ?_ (fun hHeld => ?_); focus (intro _; exact KB.out _ (D2.out.alloc D2.out.size _))); have hHeld := hHeld (by decide); clear hK K; (try simp only [Act.put, List.setIfInBounds_toArray, List.set_cons_zero, List.set_cons_succ])
  have G' := Blk.drew (Blk.new w6 25 #[.bool b, .slice A n c, .int .i64 X])
  have D3 := Lib.hid (show Below W0.heap.size W0 (w6.alloc (.cells #[.bool b, .slice A n c, .int .i64 X] 25)).drew from D2.out.alloc D2.out.size (.cells #[.bool b, .slice A n c, .int .i64 X] 25))
  obtain ⟨w7, hw7⟩ : ∃ w7, (w6.alloc (.cells #[.bool b, .slice A n c, .int .i64 X] 25)).drew = w7 := ⟨_, rfl⟩
  obtain ⟨g7, hg7⟩ : ∃ g7, w6.heap.size = g7 := ⟨_, rfl⟩
  rw [hw7] at G' D3 hHeld ⊢
  rw [hg7] at G' ⊢
  clear hw7 hg7 D2
  (refine wpAnyL_one (i := 5) (o := _) (by kernel_rfl) rfl (fun K hK => ?_); clear hHeld; simp only [List.getElem_toArray, List.getElem_cons_zero, List.getElem_cons_succ]; go_simp; (go_at_call 16; (with_reducible refine (DR.out w7 g7 D3.out G').mono ?_); rintro e w8 ⟨rfl, hb8⟩; have D3 := Lib.hid (D3.out.trans (hb8.mono D3.out.size)); clear hb8); refine hK.out _ _ ?_ (fun hHeld => ?_); focus (intro _; exact KB.out _ D3.out)); have hHeld := hHeld (by decide); clear hK K; (try simp only [Act.put, List.setIfInBounds_toArray, List.set_cons_zero, List.set_cons_succ])
  clear G'
  (refine wpAnyL_take (i := 6) (oi := _) (v := ?_) rfl (by kernel_rfl) (by kernel_rfl) (by kernel_rfl) (fun _ _ _ h => h) (Or.inl ⟨by first | rfl | kernel_rfl, ?hy5⟩) (by assumption) ?rs5; (case hy5 => (intro w hSw; (try dsimp only at hSw); go_simp; first | done | with_reducible rfl)); case' rs5 => (simp only [List.getElem_toArray, List.getElem_cons_zero, List.getElem_cons_succ, Act.put, List.setIfInBounds_toArray, List.set_cons_zero, List.set_cons_succ])); (refine wpAnyL_take (i := 7) (oi := _) (v := ?_) rfl (by kernel_rfl) (by kernel_rfl) (by kernel_rfl) (fun _ _ _ h => h) (Or.inl ⟨by first | rfl | kernel_rfl, ?hy6⟩) (by assumption) ?rs6; (case hy6 => (intro w hSw; (try dsimp only at hSw); go_simp; first | done | with_reducible rfl)); case' rs6 => (simp only [List.getElem_toArray, List.getElem_cons_zero, List.getElem_cons_succ, Act.put, List.setIfInBounds_toArray, List.set_cons_zero, List.set_cons_succ])); (refine wpAnyL_take (i := 8) (oi := _) (v := ?_) rfl (by kernel_rfl) (by kernel_rfl) (by kernel_rfl) (fun _ _ _ h => h) (Or.inl ⟨by first | rfl | kernel_rfl, ?hy7⟩) (by assumption) ?rs7; (case hy7 => (intro w hSw; (try dsimp only at hSw); go_simp; first | done | with_reducible rfl)); case' rs7 => (simp only [List.getElem_toArray, List.getElem_cons_zero, List.getElem_cons_succ, Act.put, List.setIfInBounds_toArray, List.set_cons_zero, List.set_cons_succ])); (refine wpAnyL_take (i := 9) (oi := _) (v := ?_) rfl (by kernel_rfl) (by kernel_rfl) (by kernel_rfl) (fun _ _ _ h => h) (Or.inl ⟨by first | rfl | kernel_rfl, ?hy8⟩) (by assumption) ?rs8; (case hy8 => (intro w hSw; (try dsimp only at hSw); go_simp; first | done | with_reducible rfl)); case' rs8 => (simp only [List.getElem_toArray, List.getElem_cons_zero, List.getElem_cons_succ, Act.put, List.setIfInBounds_toArray, List.set_cons_zero, List.set_cons_succ])); (refine wpAnyL_take (i := 11) (oi := _) (v := ?_) rfl (by kernel_rfl) (by kernel_rfl) (by kernel_rfl) (fun _ _ _ h => h) (Or.inl ⟨by first | rfl | kernel_rfl, ?hy9⟩) (by assumption) ?rs9; (case hy9 => (intro w hSw; (try dsimp only at hSw); go_simp; first | done | with_reducible rfl)); case' rs9 => (simp only [List.getElem_toArray, List.getElem_cons_zero, List.getElem_cons_succ, Act.put, List.setIfInBounds_toArray, List.set_cons_zero, List.set_cons_succ])); skip
  (refine wpAnyL_one (i := 10) (o := _) (by kernel_rfl) rfl (fun K hK => ?_); clear hHeld; simp only [List.getElem_toArray, List.getElem_cons_zero, List.getElem_cons_succ]; go_simp; (go_at_call 34; (with_reducible refine (QO.out w8 D3.out).mono ?_); rintro e w9 ⟨b9, A9, n9, c9, t9, z9, rfl, hz, y1, y2, y3, y4, hb9⟩; have D3 := Lib.hid (D3.out.trans (hb9.mono D3.out.size)); have Q9 := Lib.hid (RetS.qs hz y1 y2 y3 y4); clear hb9 hz y1 y2 y3 y4); refine hK.out _ _ ?_ (fun hHeld => ?_); focus (intro _; exact KB.out _ D3.out)); have hHeld := hHeld (by decide); clear hK K; (try simp only [Act.put, List.setIfInBounds_toArray, List.set_cons_zero, List.set_cons_succ])
  (refine wpAnyL_one (i := 12) (o := _) (by kernel_rfl) rfl (fun K hK => ?_); clear hHeld; simp only [List.getElem_toArray, List.getElem_cons_zero, List.getElem_cons_succ]; go_simp; (go_at_call 35; (with_reducible refine (QC0.out w9 _ D3.out Q9.out).mono ?_); rintro e w10 ⟨rfl, hb10⟩; have D3 := Lib.hid (D3.out.trans (hb10.mono D3.out.size)); clear hb10); refine hK.out _ _ ?_ (fun hHeld => ?_); focus (intro _; exact KB.out _ D3.out)); have hHeld := hHeld (by decide); clear hK K; (try simp only [Act.put, List.setIfInBounds_toArray, List.set_cons_zero, List.set_cons_succ])
  (refine wpAnyL_take (i := 13) (oi := _) (v := ?_) rfl (by kernel_rfl) (by kernel_rfl) (by kernel_rfl) (fun _ _ _ h => h) (Or.inl ⟨by first | rfl | kernel_rfl, ?hy10⟩) (by assumption) ?rs10; (case hy10 => (intro w hSw; (try dsimp only at hSw); go_simp; first | done | with_reducible rfl)); case' rs10 => (simp only [List.getElem_toArray, List.getElem_cons_zero, List.getElem_cons_succ, Act.put, List.setIfInBounds_toArray, List.set_cons_zero, List.set_cons_succ])); (refine wpAnyL_take (i := 14) (oi := _) (v := ?_) rfl (by kernel_rfl) (by kernel_rfl) (by kernel_rfl) (fun _ _ _ h => h) (Or.inl ⟨by first | rfl | kernel_rfl, ?hy11⟩) (by assumption) ?rs11; (case hy11 => (intro w hSw; (try dsimp only at hSw); go_simp; first | done | with_reducible rfl)); case' rs11 => (simp only [List.getElem_toArray, List.getElem_cons_zero, List.getElem_cons_succ, Act.put, List.setIfInBounds_toArray, List.set_cons_zero, List.set_cons_succ])); (refine wpAnyL_take (i := 15) (oi := _) (v := ?_) rfl (by kernel_rfl) (by kernel_rfl) (by kernel_rfl) (fun _ _ _ h => h) (Or.inl ⟨by first | rfl | kernel_rfl, ?hy12⟩) (by assumption) ?rs12; (case hy12 => (intro w hSw; (try dsimp only at hSw); go_simp; first | done | with_reducible rfl)); case' rs12 => (simp only [List.getElem_toArray, List.getElem_cons_zero, List.getElem_cons_succ, Act.put, List.setIfInBounds_toArray, List.set_cons_zero, List.set_cons_succ])); skip
  refine wpAnyL_done (by kernel_rfl) ?_ _
  go_wp2
  go_ret
  exact ⟨rfl, D0.out.trans (D3.out.mono D0.out.size)⟩
theorem ToldDyad_c (b : Bool) (A : Option Addr) (n c : Nat) (x : Int) (r : Re) (bq : Bool) (Aq : Option Addr) (nq cq : Nat) (t z : Int) (M T : Nat) (w : World) (hG : GV w b A n c x r.d) (hv : ZL w bq Aq nq cq z) (hM : z.natAbs < 2 ^ M) (ht : 0 ≤ t ∧ t ≤ T) (hM2 : M ≤ 340000) (hT : T ≤ 50000) (hr : r = fin z (-t)) :
    Calls Tryd.prog 21 #[.agg #[.bool b, .slice A n c, .int .i64 x], .int .i64 r.e, .agg #[.bool bq, .slice Aq nq cq, .int .i64 t]] w (DC.RetB w (.bool true)) := by
  have hzn := hv.zero
  by_cases hz : z = 0
  · subst hz
    rw [fin_zero] at hr
    subst hr
    obtain ⟨rfl, rfl, rfl⟩ := (VD.none_iff hG).2 rfl
    obtain rfl : nq = 0 := by
      rcases Nat.eq_zero_or_pos nq with h | h
      · exact h
      · exact absurd rfl (hzn.2 h)
    exact told_zero t bq Aq cq A c w
  · have hn : 0 < nq := by
      rcases Nat.eq_zero_or_pos nq with h | h
      · exact absurd (hzn.1 h) hz
      · exact h
    obtain ⟨N, o, e, ho, hN, hb, TW⟩ := twos hz hM (by omega)
    have hf : r = if inb o (-t + N) then ⟨0, 0, o, -t + N⟩ else ⟨2, dz⟩ := by rw [hr]; exact fin_of e ho
    by_cases hi : inb o (-t + N)
    · rw [if_pos hi] at hf
      subst hf
      have hx : x = -t + N := hG.2.2.1
      subst hx
      exact told_in t z o N T M b A n c bq Aq nq cq w hG hv hn ht hT hM hM2 (by omega) hb ho e TW hi
    · rw [if_neg hi] at hf
      subst hf
      obtain ⟨rfl, rfl, rfl⟩ := (VD.none_iff hG).2 rfl
      exact told_over t z o N T bq Aq nq cq A c w hv hn ht hT (by omega) hb TW hi
end QC
end Go.Proofs.YtjplemfdhhkbaaaDoor
