/-
  QuotRoot: the walk.
-/
import Derived.Test.YtpmjeipdldnnbaaDoorH7
import Derived.Test.YtpmjeipdldnnbaaDoorH8
namespace Go.Proofs.YtpmjeipdldnnbaaDoor
set_option linter.unusedVariables false
set_option linter.unusedSimpArgs false
open Go.RowKit
set_option linter.unusedVariables false
set_option linter.unusedSimpArgs false
namespace JC
open L NC NK DC RC SC PC
theorem st3 {x mode : Int} (hm : 0 ≤ mode ∧ mode ≤ 4) : ST x mode = ((ST x mode).1, (ST x mode).2.1, 0) := by
  have := ST_e (x := x) hm
  generalize ST x mode = t at *
  obtain ⟨a, b, c⟩ := t
  dsimp only at this
  rw [this]
set_option maxRecDepth 100000 in
set_option maxHeartbeats 8000000 in
theorem rootK_c (x y mode : Int) (w : World) (hx : 0 ≤ x ∧ x ≤ 18446744073709551615) (hy : 0 ≤ y ∧ y ≤ 18446744073709551615) (hT : TabD w) :
    Calls Tryd.prog 6 #[.int .u64 x, .int .u64 y, .int .i64 mode] w fun e w' => e = .returned (.bool true) ∧ Below w.heap.size w w' := by
  have HT : Hid (∀ W : World, Below w.heap.size w W → TabD W) := fun W hW => hT.below hW
  have LV : Hid (∀ W : World, Below w.heap.size w W → Calls Tryd.prog 12 #[] W fun e w' => e = .returned (.bool true) ∧ Below W.heap.size W w') := fun W hW => livesJ_c W (HT.out W hW)
  have D := Lib.hid (Below.refl w.heap.size w)
  have A1 : Hid (∀ W : World, Below w.heap.size w W → Calls Tryd.prog 23 #[.int .u64 x, .int .u64 x, .int .i64 mode] W (DC.RetB W (ATv (MT x x mode)))) := fun W hW => Mul_c x x mode W hx hx (HT.out W hW)
  have bp := MT_bd mode hx hx
  by_cases hm : 0 ≤ mode ∧ mode ≤ 4
  · obtain ⟨p, lo, hM⟩ := MT_ok (x := x) (y := x) hm
    have sq := fun h => square_p (x := x) hm hx h
    rw [hM] at A1 bp sq
    dsimp only at bp sq
    have ba := ST_bd mode hx
    have bb := ST_bd mode hy
    obtain ⟨kx, ex, Rx, fx⟩ := Rank_g hx
    obtain ⟨ky, ey, Ry, fy⟩ := Rank_g hy
    obtain ⟨ka, ea, Ra, fa⟩ := Rank_g ba
    obtain ⟨kb, eb, Rb, fb⟩ := Rank_g bb
    have Rx := Lib.hid Rx
    have Ry := Lib.hid Ry
    have Ra := Lib.hid Ra
    have Rb := Lib.hid Rb
    have P1 : ex = 0 → ey = 0 → kx ≤ ky → ea = 0 → eb = 0 → ka ≤ kb := fun h1 h2 h4 h5 h6 => by
      obtain ⟨n1, rfl⟩ := fx h1
      obtain ⟨n2, rfl⟩ := fy h2
      obtain ⟨n3, rfl⟩ := fa h5
      obtain ⟨n4, rfl⟩ := fb h6
      exact order_root hm hx hy n1 n2 h4 n3 n4
    clear fx fy fa fb
    have rs := root_same hx
    have S1 : Hid (∀ W : World, Below w.heap.size w W → Calls Tryd.prog 24 #[.int .u64 p, .int .i64 mode] W (DC.RetB W (ATv ((ST p mode).1, (ST p mode).2.1, 0)))) := fun W hW => by
      have := Sqrt_c p mode W bp (HT.out W hW)
      rwa [st3 hm] at this
    have S2 : Hid (∀ W : World, Below w.heap.size w W → Calls Tryd.prog 24 #[.int .u64 x, .int .i64 mode] W (DC.RetB W (ATv ((ST x mode).1, (ST x mode).2.1, 0)))) := fun W hW => by
      have := Sqrt_c x mode W hx (HT.out W hW)
      rwa [st3 hm] at this
    have S3 : Hid (∀ W : World, Below w.heap.size w W → Calls Tryd.prog 24 #[.int .u64 y, .int .i64 mode] W (DC.RetB W (ATv ((ST y mode).1, (ST y mode).2.1, 0)))) := fun W hW => by
      have := Sqrt_c y mode W hy (HT.out W hW)
      rwa [st3 hm] at this
    have S4 : Hid (∀ W : World, Below w.heap.size w W → Calls Tryd.prog 24 #[.int .u64 x, .int .i64 0] W (DC.RetB W (ATv ((ST x 0).1, (ST x 0).2.1, 0)))) := fun W hW => by
      have := Sqrt_c x 0 W hx (HT.out W hW)
      rwa [st3 (by omega)] at this
    have S5 : Hid (∀ W : World, Below w.heap.size w W → Calls Tryd.prog 24 #[.int .u64 x, .int .i64 4] W (DC.RetB W (ATv ((ST x 0).1, (ST x 4).2.1, 0)))) := fun W hW => by
      have := Sqrt_c x 4 W hx (HT.out W hW)
      rwa [st3 (by omega), ← rs] at this
    have CX : Hid (∀ W : World, Calls Tryd.prog 13 #[.int .u64 x] W fun e w' => e = .returned (.int .i64 (F.cls x)) ∧ W = w') := fun W => FloatC.Class_c x hx.1 hx.2 W
    have CP : Hid (∀ W : World, Calls Tryd.prog 13 #[.int .u64 p] W fun e w' => e = .returned (.int .i64 (F.cls p)) ∧ W = w') := fun W => FloatC.Class_c p bp.1 bp.2 W
    have AX : Hid (∀ W : World, Calls Tryd.prog 20 #[.int .u64 x] W fun e w' => e = .returned (.int .u64 (F.abs x)) ∧ W = w') := fun W => FloatC.Abs_c x hx.1 hx.2 W
    have kk : ¬ F.cls x < 4 ∨ (F.cls x < 4 ∧ lo = true) ∨ (F.cls x < 4 ∧ lo = false ∧ (F.cls p == 3) = false) ∨ (F.cls x < 4 ∧ lo = false ∧ F.cls p = 3 ∧ (ST p mode).1 = F.abs x ∧ (ST p mode).2.1 = false) := by
      by_cases h1 : F.cls x < 4
      · cases lo
        · by_cases h3 : F.cls p = 3
          · have := sq h1 rfl h3
            exact .inr (.inr (.inr ⟨h1, rfl, h3, by rw [this], by rw [this]⟩))
          · exact .inr (.inr (.inl ⟨h1, rfl, by simp [h3]⟩))
        · exact .inr (.inl ⟨h1, rfl⟩)
      · exact .inl h1
    unfold ATv at A1 S1 S2 S3 S4 S5
    dsimp only at A1 S1 S2 S3 S4 S5
    clear sq hM rs ba bb hm hT hx hy bp
    generalize (ST p mode).1 = r at *
    generalize (ST p mode).2.1 = lr at *
    generalize (ST x mode).1 = a at *
    generalize (ST x mode).2.1 = la at *
    generalize (ST y mode).1 = b at *
    generalize (ST y mode).2.1 = lb at *
    generalize (ST x 0).1 = c at *
    generalize (ST x 0).2.1 = lc at *
    generalize (ST x 4).2.1 = ld at *
    generalize F.cls x = cx at *
    generalize F.cls p = cp at *
    generalize F.abs x = ax at *
    have tc : (c == c) = true := by simp
    have ta : (ax != ax) = false := by simp
    have OA : Hid (∀ W : World, Calls Tryd.prog 15 #[.slice (some ⟨W.heap.size, 0, none⟩) 2 2] (W.alloc (.cells #[.int .i64 0, .int .i64 0] 25)) fun e w' => e = .returned (.bool true) ∧ W.alloc (.cells #[.int .i64 0, .int .i64 0] 25) = w') := fun W => okn W [0, 0] true (by simp) rfl
    obtain ⟨o, ho⟩ : ∃ o, [0, 0, ex, ey].all (· == 0) = o := ⟨_, rfl⟩
    have OB : Hid (∀ W : World, Calls Tryd.prog 15 #[.slice (some ⟨W.heap.size, 0, none⟩) 4 4] (W.alloc (.cells #[.int .i64 0, .int .i64 0, .int .i64 ex, .int .i64 ey] 25)) fun e w' => e = .returned (.bool o) ∧ W.alloc (.cells #[.int .i64 0, .int .i64 0, .int .i64 ex, .int .i64 ey] 25) = w') := fun W => okn W [0, 0, ex, ey] o (by simp) ho
    obtain ⟨o2, ho2⟩ : ∃ o, [ea, eb].all (· == 0) = o := ⟨_, rfl⟩
    have OC : Hid (∀ W : World, Calls Tryd.prog 15 #[.slice (some ⟨W.heap.size, 0, none⟩) 2 2] (W.alloc (.cells #[.int .i64 ea, .int .i64 eb] 25)) fun e w' => e = .returned (.bool o2) ∧ W.alloc (.cells #[.int .i64 ea, .int .i64 eb] 25) = w') := fun W => okn W [ea, eb] o2 (by simp) ho2
    have ko : o = false ∨ (o = true ∧ kx > ky) ∨ (o = true ∧ ¬ kx > ky ∧ o2 = false) ∨ (o = true ∧ ¬ kx > ky ∧ o2 = true ∧ ¬ ka > kb) := by
      cases o
      · exact .inl rfl
      · obtain ⟨-, -, h1, h2⟩ := all4o ho
        by_cases h3 : kx > ky
        · exact .inr (.inl ⟨rfl, h3⟩)
        · cases o2
          · exact .inr (.inr (.inl ⟨rfl, h3, rfl⟩))
          · obtain ⟨h4, h5⟩ := all2o ho2
            exact .inr (.inr (.inr ⟨rfl, h3, rfl, by have := P1 h1 h2 (by omega) h4 h5; omega⟩))
    clear P1 ho ho2
    rcases ko with rfl | ⟨rfl, g1⟩ | ⟨rfl, g1, rfl⟩ | ⟨rfl, g1, rfl, g2⟩
    all_goals (
      rcases kk with k1 | ⟨k1, rfl⟩ | ⟨k1, rfl, k2⟩ | ⟨k1, rfl, rfl, rfl, rfl⟩
      all_goals (
        go_enter Tryd.func6, Tryd.ntmps6
        go_wp2_with (first
          | (go_at_call 23; (with_reducible refine (A1.out _ D.out).mono ?_); rintro e w1 ⟨rfl, hb⟩; have D := Lib.hid (D.out.trans (hb.mono D.out.size)); clear hb)
          | (go_at_call 24; (with_reducible refine (S1.out _ D.out).mono ?_); rintro e w2 ⟨rfl, hb⟩; have D := Lib.hid (D.out.trans (hb.mono D.out.size)); clear hb)
          | (go_at_call 12; (with_reducible refine (LV.out _ D.out).mono ?_); rintro e w3 ⟨rfl, hb⟩; have D := Lib.hid (D.out.trans (hb.mono D.out.size)); clear hb)
          | (go_at_call 15; (with_reducible refine (OA.out w3).mono ?_); rintro e w4 ⟨rfl, hw⟩; have s := al1 w3 (.cells #[.int .i64 0, .int .i64 0] 25); rw [hw] at s; clear hw; have D := Lib.hid (D.out.trans (s.mono D.out.size)); clear s)
          | (go_at_call 13; (with_reducible refine (CX.out _).mono ?_); rintro e v1 ⟨rfl, rfl⟩)
          | (go_at_call 13; (with_reducible refine (CP.out _).mono ?_); rintro e v2 ⟨rfl, rfl⟩)
          | (go_at_call 20; (with_reducible refine (AX.out _).mono ?_); rintro e v3 ⟨rfl, rfl⟩)
          | (go_at_call 24; (with_reducible refine (S2.out _ D.out).mono ?_); rintro e w5 ⟨rfl, hb⟩; have D := Lib.hid (D.out.trans (hb.mono D.out.size)); clear hb)
          | (go_at_call 24; (with_reducible refine (S3.out _ D.out).mono ?_); rintro e w6 ⟨rfl, hb⟩; have D := Lib.hid (D.out.trans (hb.mono D.out.size)); clear hb)
          | (go_at_call 25; (with_reducible refine (Rx.out _).mono ?_); rintro e v4 ⟨rfl, rfl⟩)
          | (go_at_call 25; (with_reducible refine (Ry.out _).mono ?_); rintro e v5 ⟨rfl, rfl⟩)
          | (go_at_call 15; (with_reducible refine (OB.out w6).mono ?_); rintro e w7 ⟨rfl, hw⟩; have s := al1 w6 (.cells #[.int .i64 0, .int .i64 0, .int .i64 ex, .int .i64 ey] 25); rw [hw] at s; clear hw; have D := Lib.hid (D.out.trans (s.mono D.out.size)); clear s)
          | (go_at_call 25; (with_reducible refine (Ra.out _).mono ?_); rintro e v6 ⟨rfl, rfl⟩)
          | (go_at_call 25; (with_reducible refine (Rb.out _).mono ?_); rintro e v7 ⟨rfl, rfl⟩)
          | (go_at_call 15; (with_reducible refine (OC.out w7).mono ?_); rintro e w8 ⟨rfl, hw⟩; have s := al1 w7 (.cells #[.int .i64 ea, .int .i64 eb] 25); rw [hw] at s; clear hw; have D := Lib.hid (D.out.trans (s.mono D.out.size)); clear s)
          | (go_at_call 24; (with_reducible refine (S4.out _ D.out).mono ?_); rintro e w9 ⟨rfl, hb⟩; have D := Lib.hid (D.out.trans (hb.mono D.out.size)); clear hb)
          | (go_at_call 24; (with_reducible refine (S5.out _ D.out).mono ?_); rintro e w10 ⟨rfl, hb⟩; have D := Lib.hid (D.out.trans (hb.mono D.out.size)); clear hb)
          | (go_at_call 15; (with_reducible refine (OA.out w10).mono ?_); rintro e w11 ⟨rfl, hw⟩; have s := al1 w10 (.cells #[.int .i64 0, .int .i64 0] 25); rw [hw] at s; clear hw; have D := Lib.hid (D.out.trans (s.mono D.out.size)); clear s))
        go_ret
        exact ⟨rfl, D.out⟩))
  · have S1 : Hid (∀ W : World, Below w.heap.size w W → Calls Tryd.prog 24 #[.int .u64 0, .int .i64 mode] W (DC.RetB W (ATv (0, false, 1)))) := fun W hW => by
      have := Sqrt_c 0 mode W (by omega) (HT.out W hW)
      rwa [ST_no hm] at this
    rw [MT_no hm] at A1
    unfold ATv at A1 S1
    have OA : Hid (∀ W : World, Calls Tryd.prog 15 #[.slice (some ⟨W.heap.size, 0, none⟩) 2 2] (W.alloc (.cells #[.int .i64 1, .int .i64 1] 25)) fun e w' => e = .returned (.bool false) ∧ W.alloc (.cells #[.int .i64 1, .int .i64 1] 25) = w') := fun W => okn W [1, 1] false (by simp) rfl
    clear hm hT hx hy bp
    go_enter Tryd.func6, Tryd.ntmps6
    go_wp2_with (first
      | (go_at_call 23; (with_reducible refine (A1.out _ D.out).mono ?_); rintro e w1 ⟨rfl, hb⟩; have D := Lib.hid (D.out.trans (hb.mono D.out.size)); clear hb)
      | (go_at_call 24; (with_reducible refine (S1.out _ D.out).mono ?_); rintro e w2 ⟨rfl, hb⟩; have D := Lib.hid (D.out.trans (hb.mono D.out.size)); clear hb)
      | (go_at_call 12; (with_reducible refine (LV.out _ D.out).mono ?_); rintro e w3 ⟨rfl, hb⟩; have D := Lib.hid (D.out.trans (hb.mono D.out.size)); clear hb)
      | (go_at_call 15; (with_reducible refine (OA.out w3).mono ?_); rintro e w4 ⟨rfl, hw⟩; have s := al1 w3 (.cells #[.int .i64 1, .int .i64 1] 25); rw [hw] at s; clear hw; have D := Lib.hid (D.out.trans (s.mono D.out.size)); clear s))
    go_ret
    exact ⟨rfl, D.out⟩
end JC
end Go.Proofs.YtpmjeipdldnnbaaDoor
