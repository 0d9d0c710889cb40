/-
  RoundSides, RoundTurned: the walks.
-/
import Derived.Test.YtnlgkhgighhfjaaDoorG6
namespace Go.Proofs.YtnlgkhgighhfjaaDoor
set_option linter.unusedVariables false
set_option linter.unusedSimpArgs false
open Go.RowKit
set_option linter.unusedVariables false
set_option linter.unusedSimpArgs false
namespace RC
open L NC NK DC
open Z (Nz Tz cmpv)
theorem rnk_nn {y : Int} (h : 0 ≤ y ∧ y ≤ 18446744073709551615 ∧ F.nn y) : -9218868437227405312 ≤ F.rnk y ∧ F.rnk y ≤ 9218868437227405312 := by
  obtain ⟨h0, h1, h2⟩ := h
  unfold F.nn at h2
  unfold F.rnk
  split <;> omega
theorem TE_er {d : Dy} {k : Int} (hk : 0 ≤ k ∧ k ≤ 4) : TE d k = d.er := by
  unfold TE
  rw [if_pos hk]
  split
  · rfl
  · omega
theorem dv_ng {w : World} {b A n c x d} (h : DV w (.agg #[.bool b, .slice A n c, .int .i64 x]) d) (e : d.er = 0) : b = ng d := by
  obtain ⟨b', A', n', c', x', l, he, -, -, -, -, g, -⟩ := h
  simp only [Value.agg.injEq, Array.mk.injEq, List.cons.injEq, Value.bool.injEq] at he
  rw [he.1]
  exact (g e).2.1
set_option maxRecDepth 100000 in
set_option maxHeartbeats 16000000 in
theorem sides_c (ua : Value) (d : Dy) (mode : Int) (w : World) (h1 : DV w ua d) (hT : TabD w) :
    Calls Tryd.prog 9 #[ua, .int .i64 mode] w fun e w' => e = .returned (.bool true) ∧ Below w.heap.size w w' := by
  have H1 := h1
  obtain ⟨ba, Aa, na, ca, xa, la, rfl, -⟩ := H1
  have D0 := al1 w (.cells #[.bool ba, .slice Aa na ca, .int .i64 xa] 25)
  have X0 := BX.new w ba Aa na ca xa
  obtain ⟨W0, hW0⟩ : ∃ W0, w.alloc (.cells #[.bool ba, .slice Aa na ca, .int .i64 xa] 25) = W0 := ⟨_, rfl⟩
  rw [hW0] at D0 X0
  have Xa : BD W0 w.heap.size ba Aa na ca xa d := ⟨X0, h1.below D0⟩
  have HT : Hid (∀ W : World, Below W0.heap.size W0 W → TabD W) := fun W hW => (hT.below D0).below hW
  have HW0 := Lib.hid hW0
  have D := Lib.hid (Below.refl W0.heap.size W0)
  have T1 : Hid (∀ (W : World) (u : Value), Below W0.heap.size W0 W → DV W u d → Calls Tryd.prog 40 #[u, .int .i64 2] W (DC.RetB W (.tuple #[.int .u64 (TX d 2), .bool (TL d 2), .int .i64 d.er]))) := fun W u hW hu => by
    have := To_d u _ 2 W hu (HT.out W hW); rwa [TE_er (by omega)] at this
  have T2 : Hid (∀ (W : World) (u : Value), Below W0.heap.size W0 W → DV W u d → Calls Tryd.prog 40 #[u, .int .i64 1] W (DC.RetB W (.tuple #[.int .u64 (TX d 1), .bool (TL d 1), .int .i64 d.er]))) := fun W u hW hu => by
    have := To_d u _ 1 W hu (HT.out W hW); rwa [TE_er (by omega)] at this
  have T3 : Hid (∀ (W : World) (u : Value), Below W0.heap.size W0 W → DV W u d → Calls Tryd.prog 40 #[u, .int .i64 mode] W (DC.RetB W (.tuple #[.int .u64 (TX d mode), .bool (TL d mode), .int .i64 (TE d mode)]))) := fun W u hW hu => To_d u _ mode W hu (HT.out W hW)
  have LV : Hid (∀ W : World, Below W0.heap.size W0 W → Calls Tryd.prog 45 #[] W fun e w' => e = .returned (.bool true) ∧ Below W.heap.size W w') := fun W hW => lives_c W (HT.out W hW)
  have B1 := TX_bd d 2 fun e => h1.good e
  have B2 := TX_bd d 1 fun e => h1.good e
  have R1 : Hid (∀ W : World, Calls Tryd.prog 47 #[.int .u64 (TX d 2)] W fun e w' => e = .returned (.tuple #[.int .i64 (F.rnk (TX d 2)), .int .i64 0]) ∧ W = w') := fun W => Rank_w B1 W
  have R2 : Hid (∀ W : World, Calls Tryd.prog 47 #[.int .u64 (TX d 1)] W fun e w' => e = .returned (.tuple #[.int .i64 (F.rnk (TX d 1)), .int .i64 0]) ∧ W = w') := fun W => Rank_w B2 W
  have rb : -9218868437227405312 ≤ F.rnk (TX d 2) ∧ F.rnk (TX d 2) ≤ 9218868437227405312 := rnk_nn B1
  have D0 := Lib.hid D0
  have G1 := fun e => h1.good e
  have G2 := fun e => dv_ng h1 e
  clear hW0 X0 hT B1 B2
  have HE : [d.er, d.er, TE d mode].all (· == 0) = true → d.er = 0 ∧ TE d mode = 0 ∧ ba = ng d ∧ Ok d ∧ 0 ≤ mode ∧ mode ≤ 4 := fun h => by
    obtain ⟨a1, a2, a3⟩ := all3 h
    exact ⟨a1, a3, G2 a1, G1 a1, (TE_0 a3).2⟩
  obtain ⟨o, ho⟩ : ∃ o, [d.er, d.er, TE d mode].all (· == 0) = o := ⟨_, rfl⟩
  rw [ho] at HE
  have HO := Lib.hid ho
  clear ho G1 G2 h1
  cases o
  · clear HE
    generalize d.er = E at *
    generalize TE d mode = E3 at *
    go_enter Tryd.func9, Tryd.ntmps9
    go_wp2_with (first
      | (go_at_call 40; rw [HW0.out]; (with_reducible refine (T1.out _ _ D.out Xa.dv).mono ?_); rintro e w1 ⟨rfl, hb⟩; have Xa := Xa.below hb; have D := Lib.hid (D.out.trans (hb.mono D.out.size)); clear hb; obtain ⟨a_0, a_1, a_2⟩ := Xa.bx)
      | (go_at_call 40; (with_reducible refine (T2.out _ _ D.out Xa.dv).mono ?_); rintro e w2 ⟨rfl, hb⟩; have Xa := Xa.below hb; have D := Lib.hid (D.out.trans (hb.mono D.out.size)); clear hb; obtain ⟨a_0, a_1, a_2⟩ := Xa.bx)
      | (go_at_call 40; (with_reducible refine (T3.out _ _ D.out Xa.dv).mono ?_); rintro e w3 ⟨rfl, hb⟩; have D := Lib.hid (D.out.trans (hb.mono D.out.size)); clear hb)
      | (go_at_call 45; (with_reducible refine (LV.out _ D.out).mono ?_); rintro e wl ⟨rfl, hb⟩; have D := Lib.hid (D.out.trans (hb.mono D.out.size)); clear hb)
      | (go_at_call 46; (with_reducible refine (DC.ok3 wl E E E3 false HO.out).mono ?_); rintro e wo ⟨rfl, hw⟩; have s := al1 wl (.cells #[.int .i64 E, .int .i64 E, .int .i64 E3] 26); rw [hw] at s; clear hw; have D := Lib.hid (D.out.trans (s.mono D.out.size)); clear s)
      | (go_at_call 45; (with_reducible refine (LV.out _ D.out).mono ?_); rintro e wm ⟨rfl, hb⟩; have D := Lib.hid (D.out.trans (hb.mono D.out.size)); clear hb))
    go_ret
    exact ⟨by simp, D0.out.trans (D.out.mono D0.out.size)⟩
  · obtain ⟨e0, e3, eb, hok, hm⟩ := HE rfl
    obtain ⟨s1, s2, s3, s4, s5, s6⟩ := sides_p hok hm
    rw [s1] at T1
    rw [s2] at T2
    rw [e3] at T3 HO
    rw [e0] at T1 T2 HO
    rw [← eb] at s6
    clear HE e0 e3 eb hok s1 s2 hm
    generalize F.rnk (TX d 2) = n1 at *
    generalize F.rnk (TX d 1) = n2 at *
    generalize TX d 2 = y1 at *
    generalize TX d 1 = y2 at *
    generalize TX d mode = y3 at *
    generalize TL d mode = Lo at *
    have i1 : IntKind.i64.wrap (n1 + 1) = n1 + 1 := IntWalk.i64_in _ (by omega)
    clear rb
    have hfin : ∃ q1 q2 q3 q4 q5, (y3 != y1) = q1 ∧ (y3 != y2) = q2 ∧ (y1 != y2) = q3 ∧ (mode != 3) = q4 ∧ (y3 == (if ba = true then y2 else y1)) = q5 ∧ (q1 && q2) = false ∧ (!Lo && q3) = false ∧ (q4 || q5) = true ∧ (!Lo || (n2 == n1 + 1)) = true := by
      refine ⟨_, _, _, _, _, rfl, rfl, rfl, rfl, rfl, ?_, ?_, ?_, ?_⟩
      · rcases s3 with h | h <;> rw [h] <;> simp
      · cases Lo
        · rw [s4 rfl]; simp
        · rfl
      · by_cases h : mode = 3
        · rw [s6 h]; simp
        · simp [h]
      · cases Lo
        · rfl
        · rw [s5 rfl]; simp
    obtain ⟨q1, q2, q3, q4, q5, t1, t2, t3, t4, t5, t6, t7, t8, t9⟩ := hfin
    clear s3 s4 s5 s6
    cases ba <;> cases Lo <;> simp only [Bool.not_true, Bool.not_false, Bool.false_and, Bool.true_and, Bool.true_or, Bool.false_or, if_true, if_false, Bool.false_eq_true, reduceIte] at t5 t7 t9
    all_goals (
      cases q1 <;> cases q2 <;> cases q4 <;> (try cases q5) <;> (first | (exfalso; revert t6 t8; decide) | skip))
    all_goals (
      try subst t7
      clear t6 t8
      go_enter Tryd.func9, Tryd.ntmps9
      go_wp2_with (first
        | (go_at_call 40; rw [HW0.out]; (with_reducible refine (T1.out _ _ D.out Xa.dv).mono ?_); rintro e w1 ⟨rfl, hb⟩; have Xa := Xa.below hb; have D := Lib.hid (D.out.trans (hb.mono D.out.size)); clear hb; obtain ⟨a_0, a_1, a_2⟩ := Xa.bx)
        | (go_at_call 40; (with_reducible refine (T2.out _ _ D.out Xa.dv).mono ?_); rintro e w2 ⟨rfl, hb⟩; have Xa := Xa.below hb; have D := Lib.hid (D.out.trans (hb.mono D.out.size)); clear hb; obtain ⟨a_0, a_1, a_2⟩ := Xa.bx)
        | (go_at_call 40; (with_reducible refine (T3.out _ _ D.out Xa.dv).mono ?_); rintro e w3 ⟨rfl, hb⟩; have Xa := Xa.below hb; have D := Lib.hid (D.out.trans (hb.mono D.out.size)); clear hb)
        | (go_at_call 45; (with_reducible refine (LV.out _ D.out).mono ?_); rintro e wl ⟨rfl, hb⟩; have Xa := Xa.below hb; have D := Lib.hid (D.out.trans (hb.mono D.out.size)); clear hb)
        | (go_at_call 46; (with_reducible refine (DC.ok3 wl 0 0 0 true HO.out).mono ?_); rintro e wo ⟨rfl, hw⟩; have s := al1 wl (.cells #[.int .i64 0, .int .i64 0, .int .i64 0] 26); rw [hw] at s; clear hw; have Xa := Xa.below s; have D := Lib.hid (D.out.trans (s.mono D.out.size)); clear s; obtain ⟨a_0, a_1, a_2⟩ := Xa.bx)
        | (go_at_call 47; (with_reducible refine (R1.out _).mono ?_); rintro e w7 ⟨rfl, rfl⟩)
        | (go_at_call 47; (with_reducible refine (R2.out _).mono ?_); rintro e w8 ⟨rfl, rfl⟩)
        | (go_at_call 46; (with_reducible refine (ok2' wo 0 0 true rfl).mono ?_); rintro e wp ⟨rfl, hw⟩; have s := al1 wo (.cells #[.int .i64 0, .int .i64 0] 26); rw [hw] at s; clear hw; have D := Lib.hid (D.out.trans (s.mono D.out.size)); clear s))
      go_ret
      exact ⟨rfl, D0.out.trans (D.out.mono D0.out.size)⟩)
end RC
end Go.Proofs.YtnlgkhgighhfjaaDoor
