/-
  The reference: DyadRight of one Dyad, of two.
-/
import Derived.Test.YtjplemfdhhkbaaaDoorV5
import Derived.Test.YtjplemfdhhkbaaaDoorE7
namespace Go.Proofs.YtjplemfdhhkbaaaDoor
set_option linter.unusedVariables false
set_option linter.unusedSimpArgs false
open Go.RowKit
set_option linter.unusedVariables false
set_option linter.unusedSimpArgs false
namespace VD
open L NC NK DC
theorem idx_facts {n i : Nat} (h : n = i + 1) (hl : n ≤ 400) : ((n : Int) == 0) = false ∧ (n : Int) > 0 ∧ (n : Int) - 1 = (i : Int) ∧ IntKind.i64.wrap (i : Int) = (i : Int) ∧ (i : Int) < n ∧ (0 : Int) < n := by
  exact ⟨by rw [beq_eq_false_iff_ne]; omega, by omega, by omega, IntWalk.i64_in _ (by omega), by omega, by omega⟩
set_option maxRecDepth 100000 in
theorem DyadRight1_c (b1 : Bool) (A1 : Option Addr) (n1 c1 : Nat) (x1 : Int) (d1 : Dy) (g : Nat) (w : World) (h1 : DV w (.agg #[.bool b1, .slice A1 n1 c1, .int .i64 x1]) d1) (hg : g < w.heap.size) (k0 : w.cell? ⟨g, 0, none⟩ = some (.bool b1)) (k1 : w.cell? ⟨g, 1, none⟩ = some (.slice A1 n1 c1)) (k2 : w.cell? ⟨g, 2, none⟩ = some (.int .i64 x1)) :
    Calls Tryd.prog 16 #[.slice (some ⟨g, 0, none⟩) 1 1] w (DC.RetB w (.int .i64 d1.er)) := by
  have AS1 := ask h1
  have ln1 : n1 ≤ 9223372036854775807 := by
    obtain ⟨b', A', n', c', x', l, e, hs, Ll, hl, -, -, -⟩ := h1
    injection e with e
    have e1 := congrArg Array.toList e
    simp only [List.cons.injEq, Value.bool.injEq, Value.slice.injEq, Value.int.injEq, and_true, true_and] at e1
    obtain ⟨rfl, ⟨rfl, rfl, rfl⟩, rfl⟩ := e1
    rw [hs.len_.1]; exact hl
  have BO1 : Hid (∀ W : World, Calls Tryd.prog 63 #[.agg #[.bool b1, .slice A1 n1 c1, .int .i64 x1]] W (DC.RetB W (.bool (decide (n1 ≤ 400 ∧ -10000 ≤ x1 ∧ x1 ≤ 10000))))) := fun W => DyadBounds_c b1 A1 n1 c1 x1 W ln1
  obtain ⟨E1, hE1⟩ : ∃ E, d1.er = E := ⟨_, rfl⟩
  rw [hE1] at AS1
  have AS1 := Lib.hid AS1
  rw [hE1]
  have KC : Hid (∀ W, Below w.heap.size w W → W.cell? ⟨g, 0, none⟩ = some (.bool b1) ∧ W.cell? ⟨g, 1, none⟩ = some (.slice A1 n1 c1) ∧ W.cell? ⟨g, 2, none⟩ = some (.int .i64 x1)) := fun W hW => ⟨(hW.cell (p := ⟨g, 0, none⟩) hg).trans k0, (hW.cell (p := ⟨g, 1, none⟩) hg).trans k1, (hW.cell (p := ⟨g, 2, none⟩) hg).trans k2⟩
  clear h1 ln1 hE1 hg k0 k1 k2
  go_enter Tryd.func16, Tryd.ntmps16
  go_wp2
  go_loopw [8] (fun iv wr => (iv = .int .i64 0 ∨ (iv = .int .i64 1 ∧ Hid (E1 = 0))) ∧ Hid (Below w.heap.size w wr)) (fun iv _ => (1 - intOf iv).toNat)
  case atStart => exact ⟨.inl rfl, Below.refl _ _⟩
  case round =>
    obtain ⟨hk, hD⟩ := hrel
    obtain ⟨k0, k1, k2⟩ := KC.out _ hD.out
    rcases hk with rfl | ⟨rfl, he⟩
    · rcases AS1.out with ⟨h, e⟩ | ⟨h, hn, hb, e⟩ | ⟨h, hn, hb, hx, e⟩ | ⟨h, hn, hb, hx, e⟩ | ⟨h, i, hn, ad, hA, hlt, u, hu, h2, e⟩ | ⟨h, i, hn, ad, hA, hlt, u, v, hu, h2, hv, h3, e⟩ | ⟨h, i, hn, ad, hA, hlt, u, v, hu, h2, hv, h3, e⟩
      · rw [decide_eq_false h] at BO1
        subst e
        clear h
        go_wp2_with (go_at_call 63; (with_reducible refine (BO1.out _).mono ?_); rintro e w1 ⟨rfl, hb⟩; have D := Lib.hid (hD.out.trans (((al1 wr _).trans (hb.mono (by simp))).mono hD.out.size)); have X1 := (BX.new wr _ _ _ _ _).below hb; obtain ⟨q0, q1, q2⟩ := X1)
        go_ret
        exact ⟨rfl, D.out⟩
      · rw [decide_eq_true h] at BO1
        subst e
        subst hn
        subst hb
        clear h
        go_wp2_with (go_at_call 63; (with_reducible refine (BO1.out _).mono ?_); rintro e w1 ⟨rfl, hb⟩; have D := Lib.hid (hD.out.trans (((al1 wr _).trans (hb.mono (by simp))).mono hD.out.size)); have X1 := (BX.new wr _ _ _ _ _).below hb; obtain ⟨q0, q1, q2⟩ := X1)
        go_ret
        exact ⟨rfl, D.out⟩
      · rw [decide_eq_true h] at BO1
        subst e
        subst hn
        subst hb
        clear h
        go_wp2_with (go_at_call 63; (with_reducible refine (BO1.out _).mono ?_); rintro e w1 ⟨rfl, hb⟩; have D := Lib.hid (hD.out.trans (((al1 wr _).trans (hb.mono (by simp))).mono hD.out.size)); have X1 := (BX.new wr _ _ _ _ _).below hb; obtain ⟨q0, q1, q2⟩ := X1)
        go_ret
        exact ⟨rfl, D.out⟩
      · rw [decide_eq_true h] at BO1
        subst e
        subst hn
        subst hb
        subst hx
        clear h
        go_wp2_with (go_at_call 63; (with_reducible refine (BO1.out _).mono ?_); rintro e w1 ⟨rfl, hb⟩; have D := Lib.hid (hD.out.trans (((al1 wr _).trans (hb.mono (by simp))).mono hD.out.size)); have X1 := (BX.new wr _ _ _ _ _).below hb; obtain ⟨q0, q1, q2⟩ := X1)
        go_roundw
        case rel => exact ⟨.inr ⟨by go_num, Lib.hid (by first | trivial | rfl)⟩, D.out⟩
        case measure => simp [intOf]
      · rw [decide_eq_true h] at BO1
        subst e
        obtain ⟨f1, f2, f3, f4, f5, f6⟩ := idx_facts hn h.1
        subst hA
        clear hn h
        go_wp2_with (go_at_call 63; (with_reducible refine (BO1.out _).mono ?_); rintro e w1 ⟨rfl, hb⟩; have D := Lib.hid (hD.out.trans (((al1 wr _).trans (hb.mono (by simp))).mono hD.out.size)); have X1 := (BX.new wr _ _ _ _ _).below hb; obtain ⟨q0, q1, q2⟩ := X1; have gu := (D.out.cell (p := ad) hlt).trans hu)
        go_ret
        exact ⟨rfl, D.out⟩
      · rw [decide_eq_true h] at BO1
        subst e
        obtain ⟨f1, f2, f3, f4, f5, f6⟩ := idx_facts hn h.1
        subst hA
        clear hn h
        go_wp2_with (go_at_call 63; (with_reducible refine (BO1.out _).mono ?_); rintro e w1 ⟨rfl, hb⟩; have D := Lib.hid (hD.out.trans (((al1 wr _).trans (hb.mono (by simp))).mono hD.out.size)); have X1 := (BX.new wr _ _ _ _ _).below hb; obtain ⟨q0, q1, q2⟩ := X1; have gu := (D.out.cell (p := ad) hlt).trans hu; have gv := (D.out.cell (p := ad.add i) (by rw [block_of_add]; exact hlt)).trans hv)
        go_ret
        exact ⟨rfl, D.out⟩
      · rw [decide_eq_true h] at BO1
        subst e
        obtain ⟨f1, f2, f3, f4, f5, f6⟩ := idx_facts hn h.1
        subst hA
        clear hn h
        go_wp2_with (go_at_call 63; (with_reducible refine (BO1.out _).mono ?_); rintro e w1 ⟨rfl, hb⟩; have D := Lib.hid (hD.out.trans (((al1 wr _).trans (hb.mono (by simp))).mono hD.out.size)); have X1 := (BX.new wr _ _ _ _ _).below hb; obtain ⟨q0, q1, q2⟩ := X1; have gu := (D.out.cell (p := ad) hlt).trans hu; have gv := (D.out.cell (p := ad.add i) (by rw [block_of_add]; exact hlt)).trans hv)
        go_roundw
        case rel => exact ⟨.inr ⟨by go_num, Lib.hid (by first | trivial | rfl)⟩, D.out⟩
        case measure => simp [intOf]
    · obtain rfl := he.out
      go_wp2
      go_ret
      exact ⟨rfl, hD.out⟩
set_option maxRecDepth 100000 in
set_option maxHeartbeats 4000000 in
theorem DyadRight2_c (b1 : Bool) (A1 : Option Addr) (n1 c1 : Nat) (x1 : Int) (d1 : Dy) (b2 : Bool) (A2 : Option Addr) (n2 c2 : Nat) (x2 : Int) (d2 : Dy) (g : Nat) (w : World) (h1 : DV w (.agg #[.bool b1, .slice A1 n1 c1, .int .i64 x1]) d1) (h2 : DV w (.agg #[.bool b2, .slice A2 n2 c2, .int .i64 x2]) d2) (hg : g < w.heap.size) (k0 : w.cell? ⟨g, 0, none⟩ = some (.bool b1)) (k1 : w.cell? ⟨g, 1, none⟩ = some (.slice A1 n1 c1)) (k2 : w.cell? ⟨g, 2, none⟩ = some (.int .i64 x1))
    (k3 : w.cell? ⟨g, 3, none⟩ = some (.bool b2)) (k4 : w.cell? ⟨g, 4, none⟩ = some (.slice A2 n2 c2)) (k5 : w.cell? ⟨g, 5, none⟩ = some (.int .i64 x2)) :
    Calls Tryd.prog 16 #[.slice (some ⟨g, 0, none⟩) 2 2] w (DC.RetB w (.int .i64 (if d1.er ≠ 0 then d1.er else d2.er))) := by
  have AS1 := ask h1
  have ln1 : n1 ≤ 9223372036854775807 := by
    obtain ⟨b', A', n', c', x', l, e, hs, Ll, hl, -, -, -⟩ := h1
    injection e with e
    have e1 := congrArg Array.toList e
    simp only [List.cons.injEq, Value.bool.injEq, Value.slice.injEq, Value.int.injEq, and_true, true_and] at e1
    obtain ⟨rfl, ⟨rfl, rfl, rfl⟩, rfl⟩ := e1
    rw [hs.len_.1]; exact hl
  have BO1 : Hid (∀ W : World, Calls Tryd.prog 63 #[.agg #[.bool b1, .slice A1 n1 c1, .int .i64 x1]] W (DC.RetB W (.bool (decide (n1 ≤ 400 ∧ -10000 ≤ x1 ∧ x1 ≤ 10000))))) := fun W => DyadBounds_c b1 A1 n1 c1 x1 W ln1
  obtain ⟨E1, hE1⟩ : ∃ E, d1.er = E := ⟨_, rfl⟩
  rw [hE1] at AS1
  have AS1 := Lib.hid AS1
  have AS2 := ask h2
  have ln2 : n2 ≤ 9223372036854775807 := by
    obtain ⟨b', A', n', c', x', l, e, hs, Ll, hl, -, -, -⟩ := h2
    injection e with e
    have e1 := congrArg Array.toList e
    simp only [List.cons.injEq, Value.bool.injEq, Value.slice.injEq, Value.int.injEq, and_true, true_and] at e1
    obtain ⟨rfl, ⟨rfl, rfl, rfl⟩, rfl⟩ := e1
    rw [hs.len_.1]; exact hl
  have BO2 : Hid (∀ W : World, Calls Tryd.prog 63 #[.agg #[.bool b2, .slice A2 n2 c2, .int .i64 x2]] W (DC.RetB W (.bool (decide (n2 ≤ 400 ∧ -10000 ≤ x2 ∧ x2 ≤ 10000))))) := fun W => DyadBounds_c b2 A2 n2 c2 x2 W ln2
  obtain ⟨E2, hE2⟩ : ∃ E, d2.er = E := ⟨_, rfl⟩
  rw [hE2] at AS2
  have AS2 := Lib.hid AS2
  rw [hE1, hE2]
  obtain ⟨R, hR⟩ : ∃ R, R = if E1 ≠ 0 then E1 else E2 := ⟨_, rfl⟩
  rw [← hR]
  have HR := Lib.hid hR
  have KC : Hid (∀ W, Below w.heap.size w W → W.cell? ⟨g, 0, none⟩ = some (.bool b1) ∧ W.cell? ⟨g, 1, none⟩ = some (.slice A1 n1 c1) ∧ W.cell? ⟨g, 2, none⟩ = some (.int .i64 x1) ∧ W.cell? ⟨g, 3, none⟩ = some (.bool b2) ∧ W.cell? ⟨g, 4, none⟩ = some (.slice A2 n2 c2) ∧ W.cell? ⟨g, 5, none⟩ = some (.int .i64 x2)) := fun W hW => ⟨(hW.cell (p := ⟨g, 0, none⟩) hg).trans k0, (hW.cell (p := ⟨g, 1, none⟩) hg).trans k1, (hW.cell (p := ⟨g, 2, none⟩) hg).trans k2, (hW.cell (p := ⟨g, 3, none⟩) hg).trans k3, (hW.cell (p := ⟨g, 4, none⟩) hg).trans k4, (hW.cell (p := ⟨g, 5, none⟩) hg).trans k5⟩
  clear h1 h2 ln1 ln2 hE1 hE2 hg k0 k1 k2 k3 k4 k5 hR
  go_enter Tryd.func16, Tryd.ntmps16
  go_wp2
  go_loopw [8] (fun iv wr => (iv = .int .i64 0 ∨ (iv = .int .i64 1 ∧ Hid (E1 = 0)) ∨ (iv = .int .i64 2 ∧ Hid (E1 = 0 ∧ E2 = 0))) ∧ Hid (Below w.heap.size w wr)) (fun iv _ => (2 - intOf iv).toNat)
  case atStart => exact ⟨.inl rfl, Below.refl _ _⟩
  case round =>
    obtain ⟨hk, hD⟩ := hrel
    obtain ⟨k0, k1, k2, k3, k4, k5⟩ := KC.out _ hD.out
    rcases hk with rfl | ⟨rfl, he⟩ | ⟨rfl, he⟩
    · clear k3 k4 k5
      rcases AS1.out with ⟨h, e⟩ | ⟨h, hn, hb, e⟩ | ⟨h, hn, hb, hx, e⟩ | ⟨h, hn, hb, hx, e⟩ | ⟨h, i, hn, ad, hA, hlt, u, hu, h2, e⟩ | ⟨h, i, hn, ad, hA, hlt, u, v, hu, h2, hv, h3, e⟩ | ⟨h, i, hn, ad, hA, hlt, u, v, hu, h2, hv, h3, e⟩
      · rw [decide_eq_false h] at BO1
        subst e
        clear h
        go_wp2_with (go_at_call 63; (with_reducible refine (BO1.out _).mono ?_); rintro e w1 ⟨rfl, hb⟩; have D := Lib.hid (hD.out.trans (((al1 wr _).trans (hb.mono (by simp))).mono hD.out.size)); have X1 := (BX.new wr _ _ _ _ _).below hb; obtain ⟨q0, q1, q2⟩ := X1)
        go_ret
        exact ⟨by rw [HR.out]; rfl, D.out⟩
      · rw [decide_eq_true h] at BO1
        subst e
        subst hn
        subst hb
        clear h
        go_wp2_with (go_at_call 63; (with_reducible refine (BO1.out _).mono ?_); rintro e w1 ⟨rfl, hb⟩; have D := Lib.hid (hD.out.trans (((al1 wr _).trans (hb.mono (by simp))).mono hD.out.size)); have X1 := (BX.new wr _ _ _ _ _).below hb; obtain ⟨q0, q1, q2⟩ := X1)
        go_ret
        exact ⟨by rw [HR.out]; rfl, D.out⟩
      · rw [decide_eq_true h] at BO1
        subst e
        subst hn
        subst hb
        clear h
        go_wp2_with (go_at_call 63; (with_reducible refine (BO1.out _).mono ?_); rintro e w1 ⟨rfl, hb⟩; have D := Lib.hid (hD.out.trans (((al1 wr _).trans (hb.mono (by simp))).mono hD.out.size)); have X1 := (BX.new wr _ _ _ _ _).below hb; obtain ⟨q0, q1, q2⟩ := X1)
        go_ret
        exact ⟨by rw [HR.out]; rfl, D.out⟩
      · rw [decide_eq_true h] at BO1
        subst e
        subst hn
        subst hb
        subst hx
        clear h
        go_wp2_with (go_at_call 63; (with_reducible refine (BO1.out _).mono ?_); rintro e w1 ⟨rfl, hb⟩; have D := Lib.hid (hD.out.trans (((al1 wr _).trans (hb.mono (by simp))).mono hD.out.size)); have X1 := (BX.new wr _ _ _ _ _).below hb; obtain ⟨q0, q1, q2⟩ := X1)
        go_roundw
        case rel => exact ⟨.inr (.inl ⟨by go_num, Lib.hid (by first | trivial | rfl)⟩), D.out⟩
        case measure => simp [intOf]
      · rw [decide_eq_true h] at BO1
        subst e
        obtain ⟨f1, f2, f3, f4, f5, f6⟩ := idx_facts hn h.1
        subst hA
        clear hn h
        go_wp2_with (go_at_call 63; (with_reducible refine (BO1.out _).mono ?_); rintro e w1 ⟨rfl, hb⟩; have D := Lib.hid (hD.out.trans (((al1 wr _).trans (hb.mono (by simp))).mono hD.out.size)); have X1 := (BX.new wr _ _ _ _ _).below hb; obtain ⟨q0, q1, q2⟩ := X1; have gu := (D.out.cell (p := ad) hlt).trans hu)
        go_ret
        exact ⟨by rw [HR.out]; rfl, D.out⟩
      · rw [decide_eq_true h] at BO1
        subst e
        obtain ⟨f1, f2, f3, f4, f5, f6⟩ := idx_facts hn h.1
        subst hA
        clear hn h
        go_wp2_with (go_at_call 63; (with_reducible refine (BO1.out _).mono ?_); rintro e w1 ⟨rfl, hb⟩; have D := Lib.hid (hD.out.trans (((al1 wr _).trans (hb.mono (by simp))).mono hD.out.size)); have X1 := (BX.new wr _ _ _ _ _).below hb; obtain ⟨q0, q1, q2⟩ := X1; have gu := (D.out.cell (p := ad) hlt).trans hu; have gv := (D.out.cell (p := ad.add i) (by rw [block_of_add]; exact hlt)).trans hv)
        go_ret
        exact ⟨by rw [HR.out]; rfl, D.out⟩
      · rw [decide_eq_true h] at BO1
        subst e
        obtain ⟨f1, f2, f3, f4, f5, f6⟩ := idx_facts hn h.1
        subst hA
        clear hn h
        go_wp2_with (go_at_call 63; (with_reducible refine (BO1.out _).mono ?_); rintro e w1 ⟨rfl, hb⟩; have D := Lib.hid (hD.out.trans (((al1 wr _).trans (hb.mono (by simp))).mono hD.out.size)); have X1 := (BX.new wr _ _ _ _ _).below hb; obtain ⟨q0, q1, q2⟩ := X1; have gu := (D.out.cell (p := ad) hlt).trans hu; have gv := (D.out.cell (p := ad.add i) (by rw [block_of_add]; exact hlt)).trans hv)
        go_roundw
        case rel => exact ⟨.inr (.inl ⟨by go_num, Lib.hid (by first | trivial | rfl)⟩), D.out⟩
        case measure => simp [intOf]
    · obtain rfl := he.out
      clear k0 k1 k2 he
      rcases AS2.out with ⟨h, e⟩ | ⟨h, hn, hb, e⟩ | ⟨h, hn, hb, hx, e⟩ | ⟨h, hn, hb, hx, e⟩ | ⟨h, i, hn, ad, hA, hlt, u, hu, h2, e⟩ | ⟨h, i, hn, ad, hA, hlt, u, v, hu, h2, hv, h3, e⟩ | ⟨h, i, hn, ad, hA, hlt, u, v, hu, h2, hv, h3, e⟩
      · rw [decide_eq_false h] at BO2
        subst e
        clear h
        go_wp2_with (go_at_call 63; (with_reducible refine (BO2.out _).mono ?_); rintro e w2 ⟨rfl, hb⟩; have D := Lib.hid (hD.out.trans (((al1 wr _).trans (hb.mono (by simp))).mono hD.out.size)); have X2 := (BX.new wr _ _ _ _ _).below hb; obtain ⟨q0, q1, q2⟩ := X2)
        go_ret
        exact ⟨by rw [HR.out]; rfl, D.out⟩
      · rw [decide_eq_true h] at BO2
        subst e
        subst hn
        subst hb
        clear h
        go_wp2_with (go_at_call 63; (with_reducible refine (BO2.out _).mono ?_); rintro e w2 ⟨rfl, hb⟩; have D := Lib.hid (hD.out.trans (((al1 wr _).trans (hb.mono (by simp))).mono hD.out.size)); have X2 := (BX.new wr _ _ _ _ _).below hb; obtain ⟨q0, q1, q2⟩ := X2)
        go_ret
        exact ⟨by rw [HR.out]; rfl, D.out⟩
      · rw [decide_eq_true h] at BO2
        subst e
        subst hn
        subst hb
        clear h
        go_wp2_with (go_at_call 63; (with_reducible refine (BO2.out _).mono ?_); rintro e w2 ⟨rfl, hb⟩; have D := Lib.hid (hD.out.trans (((al1 wr _).trans (hb.mono (by simp))).mono hD.out.size)); have X2 := (BX.new wr _ _ _ _ _).below hb; obtain ⟨q0, q1, q2⟩ := X2)
        go_ret
        exact ⟨by rw [HR.out]; rfl, D.out⟩
      · rw [decide_eq_true h] at BO2
        subst e
        subst hn
        subst hb
        subst hx
        clear h
        go_wp2_with (go_at_call 63; (with_reducible refine (BO2.out _).mono ?_); rintro e w2 ⟨rfl, hb⟩; have D := Lib.hid (hD.out.trans (((al1 wr _).trans (hb.mono (by simp))).mono hD.out.size)); have X2 := (BX.new wr _ _ _ _ _).below hb; obtain ⟨q0, q1, q2⟩ := X2)
        go_roundw
        case rel => exact ⟨.inr (.inr ⟨by go_num, Lib.hid (by first | trivial | exact ⟨rfl, rfl⟩)⟩), D.out⟩
        case measure => simp [intOf]
      · rw [decide_eq_true h] at BO2
        subst e
        obtain ⟨f1, f2, f3, f4, f5, f6⟩ := idx_facts hn h.1
        subst hA
        clear hn h
        go_wp2_with (go_at_call 63; (with_reducible refine (BO2.out _).mono ?_); rintro e w2 ⟨rfl, hb⟩; have D := Lib.hid (hD.out.trans (((al1 wr _).trans (hb.mono (by simp))).mono hD.out.size)); have X2 := (BX.new wr _ _ _ _ _).below hb; obtain ⟨q0, q1, q2⟩ := X2; have gu := (D.out.cell (p := ad) hlt).trans hu)
        go_ret
        exact ⟨by rw [HR.out]; rfl, D.out⟩
      · rw [decide_eq_true h] at BO2
        subst e
        obtain ⟨f1, f2, f3, f4, f5, f6⟩ := idx_facts hn h.1
        subst hA
        clear hn h
        go_wp2_with (go_at_call 63; (with_reducible refine (BO2.out _).mono ?_); rintro e w2 ⟨rfl, hb⟩; have D := Lib.hid (hD.out.trans (((al1 wr _).trans (hb.mono (by simp))).mono hD.out.size)); have X2 := (BX.new wr _ _ _ _ _).below hb; obtain ⟨q0, q1, q2⟩ := X2; have gu := (D.out.cell (p := ad) hlt).trans hu; have gv := (D.out.cell (p := ad.add i) (by rw [block_of_add]; exact hlt)).trans hv)
        go_ret
        exact ⟨by rw [HR.out]; rfl, D.out⟩
      · rw [decide_eq_true h] at BO2
        subst e
        obtain ⟨f1, f2, f3, f4, f5, f6⟩ := idx_facts hn h.1
        subst hA
        clear hn h
        go_wp2_with (go_at_call 63; (with_reducible refine (BO2.out _).mono ?_); rintro e w2 ⟨rfl, hb⟩; have D := Lib.hid (hD.out.trans (((al1 wr _).trans (hb.mono (by simp))).mono hD.out.size)); have X2 := (BX.new wr _ _ _ _ _).below hb; obtain ⟨q0, q1, q2⟩ := X2; have gu := (D.out.cell (p := ad) hlt).trans hu; have gv := (D.out.cell (p := ad.add i) (by rw [block_of_add]; exact hlt)).trans hv)
        go_roundw
        case rel => exact ⟨.inr (.inr ⟨by go_num, Lib.hid (by first | trivial | exact ⟨rfl, rfl⟩)⟩), D.out⟩
        case measure => simp [intOf]
    · obtain ⟨rfl, rfl⟩ := he.out
      go_wp2
      go_ret
      exact ⟨by rw [HR.out]; rfl, hD.out⟩
end VD
end Go.Proofs.YtjplemfdhhkbaaaDoor
