/-
  WholeInts: the walk.
-/
import Derived.Test.YtpmpkllpaceloaaDoorI7
namespace Go.Proofs.YtpmpkllpaceloaaDoor
set_option linter.unusedVariables false
set_option linter.unusedSimpArgs false
open Go.RowKit
set_option linter.unusedVariables false
set_option linter.unusedSimpArgs false
namespace IC
open L NC NK DC RC SC QC
theorem ints_f {n mode : Int} (hn : -9223372036854775808 ≤ n ∧ n ≤ 9223372036854775807) (hm : 0 ≤ mode ∧ mode ≤ 4) :
    ∃ z c, FT n mode = (z, c, 0) ∧ 0 ≤ z ∧ z ≤ 18446744073709551615 ∧ ((c = false ∧ IT z mode = (n, false, 0)) ∨ (c = true ∧ n > 9007199254740992) ∨ (c = true ∧ ¬ n > 9007199254740992 ∧ n < -9007199254740992)) := by
  obtain ⟨e0, g, hS⟩ := int_fin hn
  have b := TX_bd (fin n 0).d mode fun _ => g
  refine ⟨TX (fin n 0).d mode, TL (fin n 0).d mode, by unfold FT; rw [if_neg (by omega)], b.1, b.2.1, ?_⟩
  cases hl : TL (fin n 0).d mode
  · exact .inl ⟨rfl, back_p hn hm hl⟩
  · right
    by_cases h1 : n > 9007199254740992
    · exact .inl ⟨rfl, h1⟩
    · refine .inr ⟨rfl, h1, ?_⟩
      rcases Int.lt_or_le n (-9007199254740992) with h2 | h2
      · exact h2
      · rw [small_int (by omega) hm] at hl; cases hl
set_option maxRecDepth 100000 in
set_option maxHeartbeats 8000000 in
theorem ints_c (x n mode : Int) (w : World) (hx : 0 ≤ x ∧ x ≤ 18446744073709551615) (hn : -9223372036854775808 ≤ n ∧ n ≤ 9223372036854775807) (hT : TabD w) :
    Calls Tryd.prog 6 #[.int .u64 x, .int .i64 n, .int .i64 mode] w fun e w' => e = .returned (.bool true) ∧ Below w.heap.size w w' := by
  have HT : Hid (∀ W : World, Below w.heap.size w W → TabD W) := fun W hW => hT.below hW
  have LV : Hid (∀ W : World, Below w.heap.size w W → Calls Tryd.prog 28 #[] W fun e w' => e = .returned (.bool true) ∧ Below W.heap.size W w') := fun W hW => livesI_c W (HT.out W hW)
  have A1 : Hid (∀ W : World, Below w.heap.size w W → Calls Tryd.prog 8 #[.int .u64 x, .int .i64 mode] W (DC.RetB W (ItV (IT x mode)))) := fun W hW => Int_c x mode W hx (HT.out W hW)
  have A2 : Hid (∀ W : World, Below w.heap.size w W → Calls Tryd.prog 7 #[.int .u64 x, .int .i64 mode] W (DC.RetB W (ATv (WT x mode)))) := fun W hW => Round_c x mode W hx (HT.out W hW)
  have D := Lib.hid (Below.refl w.heap.size w)
  by_cases hm : 0 ≤ mode ∧ mode ≤ 4
  · have ba := wt_bd mode hx
    obtain ⟨p1, p2, p3, p4⟩ := it_wt hx hm
    obtain ⟨z, c, hF, z0, z1, hc⟩ := ints_f hn hm
    have A3 : Hid (∀ W : World, Below w.heap.size w W → Calls Tryd.prog 8 #[.int .u64 (WT x mode).1, .int .i64 mode] W (DC.RetB W (ItV (IT (WT x mode).1 mode)))) := fun W hW => Int_c _ mode W ba (HT.out W hW)
    have A4 : Hid (∀ W : World, Below w.heap.size w W → Calls Tryd.prog 9 #[.int .i64 n, .int .i64 mode] W (DC.RetB W (ATv (z, c, 0)))) := fun W hW => by
      have := From_c n mode W hn (HT.out W hW)
      rwa [hF] at this
    have A5 : Hid (∀ W : World, Below w.heap.size w W → Calls Tryd.prog 8 #[.int .u64 z, .int .i64 mode] W (DC.RetB W (ItV (IT z mode)))) := fun W hW => Int_c z mode W ⟨z0, z1⟩ (HT.out W hW)
    generalize IT (WT x mode).1 mode = tm at *
    generalize IT x mode = tk at *
    generalize WT x mode = ty at *
    generalize IT z mode = tz at *
    obtain ⟨k, lost, e⟩ := tk
    obtain ⟨y, a, f⟩ := ty
    obtain ⟨m, b, g⟩ := tm
    obtain ⟨o, d, i⟩ := tz
    dsimp only at p1 p2 p3 p4 A3
    subst p1
    subst p2
    subst p3
    unfold ATv at A2 A4
    unfold ItV at A1 A3 A5
    dsimp only at A1 A2 A3 A4 A5
    clear hT hx hn hF z0 z1 hm ba
    have p4 : g ≠ 0 ∨ (g = 0 ∧ b = false ∧ lost = a) := by
      by_cases h : g = 0
      · exact .inr ⟨h, (p4 h).1, (p4 h).2⟩
      · exact .inl h
    have hc : (c = false ∧ o = n ∧ d = false ∧ i = 0) ∨ (c = true ∧ n > 9007199254740992) ∨ (c = true ∧ ¬ n > 9007199254740992 ∧ n < -9007199254740992) := by
      rcases hc with ⟨h1, h2⟩ | h | h
      · injection h2 with h2 h3
        injection h3 with h3 h4
        exact .inl ⟨h1, h2, h3, h4⟩
      · exact .inr (.inl h)
      · exact .inr (.inr h)
    rcases p4 with q | ⟨rfl, rfl, rfl⟩
    all_goals (
      rcases hc with ⟨rfl, rfl, rfl, rfl⟩ | ⟨rfl, n1⟩ | ⟨rfl, n1, n2⟩
      all_goals (
        go_enter Tryd.func6, Tryd.ntmps6
        go_wp2_with (first
          | (go_at_call 8; (with_reducible refine (A1.out _ D.out).mono ?_); rintro e w1 ⟨rfl, hb⟩; have D := Lib.hid (D.out.trans (hb.mono D.out.size)); clear hb)
          | (go_at_call 7; (with_reducible refine (A2.out _ D.out).mono ?_); rintro e w2 ⟨rfl, hb⟩; have D := Lib.hid (D.out.trans (hb.mono D.out.size)); clear hb)
          | (go_at_call 28; (with_reducible refine (LV.out _ D.out).mono ?_); rintro e w3 ⟨rfl, hb⟩; have D := Lib.hid (D.out.trans (hb.mono D.out.size)); clear hb)
          | (go_at_call 8; (with_reducible refine (A3.out _ D.out).mono ?_); rintro e w4 ⟨rfl, hb⟩; have D := Lib.hid (D.out.trans (hb.mono D.out.size)); clear hb)
          | (go_at_call 9; (with_reducible refine (A4.out _ D.out).mono ?_); rintro e w5 ⟨rfl, hb⟩; have D := Lib.hid (D.out.trans (hb.mono D.out.size)); clear hb)
          | (go_at_call 8; (with_reducible refine (A5.out _ D.out).mono ?_); rintro e w6 ⟨rfl, hb⟩; have D := Lib.hid (D.out.trans (hb.mono D.out.size)); clear hb))
        go_ret
        exact ⟨rfl, D.out⟩))
  · rw [(no_wt hm).1] at A2
    rw [(no_wt hm).2] at A1
    unfold ATv at A2
    unfold ItV at A1
    clear hT hx hn hm
    go_enter Tryd.func6, Tryd.ntmps6
    go_wp2_with (first
      | (go_at_call 8; (with_reducible refine (A1.out _ D.out).mono ?_); rintro e w1 ⟨rfl, hb⟩; have D := Lib.hid (D.out.trans (hb.mono D.out.size)); clear hb)
      | (go_at_call 7; (with_reducible refine (A2.out _ D.out).mono ?_); rintro e w2 ⟨rfl, hb⟩; have D := Lib.hid (D.out.trans (hb.mono D.out.size)); clear hb)
      | (go_at_call 28; (with_reducible refine (LV.out _ D.out).mono ?_); rintro e w3 ⟨rfl, hb⟩; have D := Lib.hid (D.out.trans (hb.mono D.out.size)); clear hb)
      | (go_at_call 28; (with_reducible refine (LV.out _ D.out).mono ?_); rintro e w4 ⟨rfl, hb⟩; have D := Lib.hid (D.out.trans (hb.mono D.out.size)); clear hb))
    go_ret
    exact ⟨rfl, D.out⟩
end IC
end Go.Proofs.YtpmpkllpaceloaaDoor
