/-
  Texts glued together for a claim: DK1 DK3 RK1 RK2 UK1 UK2 UK3 DK2.
-/
import Derived.Test.YtcendlgbcnpfcaaDoorS5
/-
  DyadRing: the walk.
-/
namespace Go.Proofs.YtcendlgbcnpfcaaDoor
set_option linter.unusedVariables false
set_option linter.unusedSimpArgs false
open Go.RowKit
set_option linter.unusedVariables false
namespace DC
open L NC NK
open Z (Nz Tz cmpv)
theorem ok2 (W : World) (x1 x2 : Int) (o : Bool) (ho : [x1, x2].all (· == 0) = o) : Calls Tryd.prog 56 #[.slice (some ⟨W.heap.size, 0, none⟩) 2 2] (W.alloc (.cells #[.int .i64 x1, .int .i64 x2] 26)) fun e w' => e = .returned (.bool o) ∧ W.alloc (.cells #[.int .i64 x1, .int .i64 x2] 26) = w' := by
  have h1 := ok_lit W [x1, x2] (by simp)
  rw [ho] at h1
  exact h1
theorem ok2a (W : World) (ob : Obj) (x1 x2 : Int) (o : Bool) (ho : [x1, x2].all (· == 0) = o) : Calls Tryd.prog 56 #[.slice (some ⟨W.heap.size + 1, 0, none⟩) 2 2] ((W.alloc ob).alloc (.cells #[.int .i64 x1, .int .i64 x2] 26)) fun e w' => e = .returned (.bool o) ∧ (W.alloc ob).alloc (.cells #[.int .i64 x1, .int .i64 x2] 26) = w' := by
  have h := ok2 (W.alloc ob) x1 x2 o ho
  rw [show (W.alloc ob).heap.size = W.heap.size + 1 by simp] at h
  exact h
theorem ok4a (W : World) (ob : Obj) (x1 x2 x3 x4 : Int) (o : Bool) (ho : [x1, x2, x3, x4].all (· == 0) = o) : Calls Tryd.prog 56 #[.slice (some ⟨W.heap.size + 1, 0, none⟩) 4 4] ((W.alloc ob).alloc (.cells #[.int .i64 x1, .int .i64 x2, .int .i64 x3, .int .i64 x4] 26)) fun e w' => e = .returned (.bool o) ∧ (W.alloc ob).alloc (.cells #[.int .i64 x1, .int .i64 x2, .int .i64 x3, .int .i64 x4] 26) = w' := by
  have h := ok4 (W.alloc ob) x1 x2 x3 x4 o ho
  rw [show (W.alloc ob).heap.size = W.heap.size + 1 by simp] at h
  exact h
theorem ok5a (W : World) (ob : Obj) (x1 x2 x3 x4 x5 : Int) (o : Bool) (ho : [x1, x2, x3, x4, x5].all (· == 0) = o) : Calls Tryd.prog 56 #[.slice (some ⟨W.heap.size + 1, 0, none⟩) 5 5] ((W.alloc ob).alloc (.cells #[.int .i64 x1, .int .i64 x2, .int .i64 x3, .int .i64 x4, .int .i64 x5] 26)) fun e w' => e = .returned (.bool o) ∧ (W.alloc ob).alloc (.cells #[.int .i64 x1, .int .i64 x2, .int .i64 x3, .int .i64 x4, .int .i64 x5] 26) = w' := by
  have h := ok5 (W.alloc ob) x1 x2 x3 x4 x5 o ho
  rw [show (W.alloc ob).heap.size = W.heap.size + 1 by simp] at h
  exact h
theorem all4 {x1 x2 x3 x4 : Int} (h : [x1, x2, x3, x4].all (· == 0) = true) : x1 = 0 ∧ x2 = 0 ∧ x3 = 0 ∧ x4 = 0 := by
  simpa [List.all_cons, Bool.and_eq_true] using h
theorem all5 {x1 x2 x3 x4 x5 : Int} (h : [x1, x2, x3, x4, x5].all (· == 0) = true) : x1 = 0 ∧ x2 = 0 ∧ x3 = 0 ∧ x4 = 0 ∧ x5 = 0 := by
  simpa [List.all_cons, Bool.and_eq_true] using h
theorem beq_iff {x y : Int} (h : x = 0 ↔ y = 0) : ∃ t, (x == 0) = t ∧ (y == 0) = t := by
  refine ⟨y == 0, ?_, rfl⟩
  by_cases hy : y = 0
  · simp [hy, h.2 hy]
  · have : x ≠ 0 := fun hx => hy (h.1 hx)
    rw [beq_eq_false_iff_ne.2 this, beq_eq_false_iff_ne.2 hy]
end DC
end Go.Proofs.YtcendlgbcnpfcaaDoor

/-
  DyadOrder: the walk.
-/
namespace Go.Proofs.YtcendlgbcnpfcaaDoor
set_option linter.unusedVariables false
set_option linter.unusedSimpArgs false
open Go.RowKit
set_option linter.unusedVariables false
namespace DC
open L NC NK
open Z (Nz Tz cmpv)
theorem cmpn_S {a b : Dy} (ha : Ok a) (hb : Ok b) : Cmpn a b = cmpv (S a) (S b) := by
  unfold Cmpn
  rw [if_neg (by rw [ha.1, hb.1]; decide)]
  have x1 := ha.2.2.2.2.1
  have x2 := hb.2.2.2.2.1
  have e1 := sc_lv2 a b (by omega)
  have e2 := sc_lv2 b a (by omega)
  rw [Int.min_comm b.x a.x] at e2
  unfold S
  rw [← e1, ← e2]
  rcases Int.lt_trichotomy (lv2 a b) (lv2 b a) with h | h | h
  · rw [Z.cmpv_lt h, Z.cmpv_lt (sc_lt.2 h)]
  · rw [Z.cmpv_eq h, Z.cmpv_eq (by rw [h])]
  · rw [Z.cmpv_gt h, Z.cmpv_gt (sc_lt.2 h)]
theorem cmpe_0 {a b : Dy} (ha : Ok a) (hb : Ok b) : Cmpe a b = 0 := by unfold Cmpe; rw [ha.1, hb.1]; rfl
theorem cmpv_3 (x y : Int) : (cmpv x y = -1 ∧ x < y) ∨ (cmpv x y = 0 ∧ x = y) ∨ (cmpv x y = 1 ∧ y < x) := by
  rcases Int.lt_trichotomy x y with h | h | h
  · exact .inl ⟨Z.cmpv_lt h, h⟩
  · exact .inr (.inl ⟨Z.cmpv_eq h, h⟩)
  · exact .inr (.inr ⟨Z.cmpv_gt h, h⟩)
/-- what the order is to say -/
structure Ord (v12 v21 v23 v13 : Int) (t : Bool) : Prop where
  w : IntKind.i64.wrap (-v21) = -v21
  a : (v12 != -v21) = false
  e : (v12 == 0) = t
  c : ¬ v12 ≤ 0 ∨ (v12 ≤ 0 ∧ ¬ v23 ≤ 0) ∨ (v12 ≤ 0 ∧ v23 ≤ 0 ∧ ¬ 0 < v13)
theorem ord_d {a b c : Dy} (ha : Ok a) (hb : Ok b) (hc : Ok c) : Ord (Cmpn a b) (Cmpn b a) (Cmpn b c) (Cmpn a c) (decide (a.m = b.m ∧ a.x = b.x)) := by
  rw [cmpn_S ha hb, cmpn_S hb ha, cmpn_S hb hc, cmpn_S ha hc]
  have he : (a.m = b.m ∧ a.x = b.x) ↔ S a = S b := by
    constructor
    · intro h; unfold S; rw [h.1, h.2]
    · intro h; rw [S_inj ha hb h]; exact ⟨rfl, rfl⟩
  have hd : decide (a.m = b.m ∧ a.x = b.x) = decide (S a = S b) := decide_eq_decide.2 he
  rw [hd]
  generalize S a = x
  generalize S b = y
  generalize S c = z
  have h1 := cmpv_3 x y
  have h2 := cmpv_3 y x
  have h3 := cmpv_3 y z
  have h4 := cmpv_3 x z
  refine ⟨IntWalk.i64_in _ (by omega), by rw [bne_eq_false_iff_eq]; omega, ?_, by omega⟩
  by_cases h : x = y
  · have : cmpv x y = 0 := by omega
    rw [this, decide_eq_true h]; rfl
  · have : cmpv x y ≠ 0 := by omega
    rw [decide_eq_false h, beq_eq_false_iff_ne.2 this]
theorem cmp_add {a b c : Dy} (ha : Ok a) (hb : Ok b) (hc : Ok c) (h1 : (Add a c).e = 0) (h2 : (Add b c).e = 0) : Cmpn (Add a c).d (Add b c).d = Cmpn a b := by
  rw [cmpn_S (add_good _ _) (add_good _ _), cmpn_S ha hb, (add_ok h1 (fun _ => ha) (fun _ => hc)).2.2, (add_ok h2 (fun _ => hb) (fun _ => hc)).2.2]
  have h1 := cmpv_3 (S a + S c) (S b + S c)
  have h2 := cmpv_3 (S a) (S b)
  omega
end DC
end Go.Proofs.YtcendlgbcnpfcaaDoor

/-
  RoundSame, RoundOrder: the walks.
-/
namespace Go.Proofs.YtcendlgbcnpfcaaDoor
set_option linter.unusedVariables false
set_option linter.unusedSimpArgs false
open Go.RowKit
set_option linter.unusedVariables false
set_option linter.unusedSimpArgs false
namespace RC
open L NC NK DC
open Z (Nz Tz cmpv)
end RC
end Go.Proofs.YtcendlgbcnpfcaaDoor

/-
  RoundOrder, RoundSides: the walks.
-/
namespace Go.Proofs.YtcendlgbcnpfcaaDoor
set_option linter.unusedVariables false
set_option linter.unusedSimpArgs false
open Go.RowKit
set_option linter.unusedVariables false
set_option linter.unusedSimpArgs false
namespace RC
open L NC NK DC
open Z (Nz Tz cmpv)
theorem all3 {x1 x2 x3 : Int} (h : [x1, x2, x3].all (· == 0) = true) : x1 = 0 ∧ x2 = 0 ∧ x3 = 0 := by
  simpa [List.all_cons, Bool.and_eq_true] using h
theorem Rank_w {y : Int} (h : 0 ≤ y ∧ y ≤ 18446744073709551615 ∧ F.nn y) (W : World) : Calls Tryd.prog 60 #[.int .u64 y] W fun e w' => e = .returned (.tuple #[.int .i64 (F.rnk y), .int .i64 0]) ∧ W = w' := FloatC.Rank_ok y h.1 h.2.1 h.2.2 W
end RC
end Go.Proofs.YtcendlgbcnpfcaaDoor

/-
  SumCommutes, SumSmall, SumOrder: the walks.
-/
namespace Go.Proofs.YtcendlgbcnpfcaaDoor
set_option linter.unusedVariables false
set_option linter.unusedSimpArgs false
open Go.RowKit
set_option linter.unusedVariables false
set_option linter.unusedSimpArgs false
namespace SC
open L NC NK DC RC
theorem turn3 {x y mode : Int} (hx : 0 ≤ x ∧ x ≤ 18446744073709551615) (hy : 0 ≤ y ∧ y ≤ 18446744073709551615) (hm : 0 ≤ mode ∧ mode ≤ 4) :
    (F.cls (AT [x, F.neg y] mode).1 = 5 ∧ F.cls (AT [y, F.neg x] (tm mode)).1 = 5) ∨ (F.cls (AT [x, F.neg y] mode).1 = 1 ∧ F.cls (AT [y, F.neg x] (tm mode)).1 = 1) ∨ (F.cls (AT [y, F.neg x] (tm mode)).1 = F.cls (AT [x, F.neg y] mode).1 ∧ F.cls (AT [x, F.neg y] mode).1 ≠ 5 ∧ F.cls (AT [x, F.neg y] mode).1 ≠ 1 ∧ (AT [y, F.neg x] (tm mode)).1 = F.neg (AT [x, F.neg y] mode).1) := by
  rcases sub_turn hx hy hm with h | h | h
  · exact .inl h
  · exact .inr (.inl h)
  · by_cases h5 : F.cls (AT [x, F.neg y] mode).1 = 5
    · left; exact ⟨h5, by rw [h, F.cls_neg]; exact h5⟩
    · by_cases h1 : F.cls (AT [x, F.neg y] mode).1 = 1
      · right; left; exact ⟨h1, by rw [h, F.cls_neg]; exact h1⟩
      · right; right; exact ⟨by rw [h, F.cls_neg], h5, h1, h⟩
theorem AT_ok {L : List Int} {mode : Int} (hm : 0 ≤ mode ∧ mode ≤ 4) (hl : ¬ 200 < L.length) (hu : u64s L) : ∃ a b, AT L mode = (a, b, 0) := by
  have h := (AT_e hl hu).2 hm
  exact ⟨(AT L mode).1, (AT L mode).2.1, by rw [← h]⟩
theorem other_tm {mode : Int} (hm : 0 ≤ mode ∧ mode ≤ 4) : (mode = 1 ∧ tm mode = 2) ∨ (mode = 2 ∧ tm mode = 1) ∨ ((mode == 1) = false ∧ (mode == 2) = false ∧ tm mode = mode) := by
  by_cases h1 : mode = 1
  · subst h1; exact .inl ⟨rfl, rfl⟩
  · by_cases h2 : mode = 2
    · subst h2; exact .inr (.inl ⟨rfl, rfl⟩)
    · right; right
      refine ⟨by simp [h1], by simp [h2], ?_⟩
      unfold tm; rw [if_neg h1, if_neg h2]
set_option maxRecDepth 100000 in
set_option maxHeartbeats 8000000 in
theorem commutes_c (x y mode : Int) (w : World) (hx : 0 ≤ x ∧ x ≤ 18446744073709551615) (hy : 0 ≤ y ∧ y ≤ 18446744073709551615) (hT : TabD w) :
    Calls Tryd.prog 9 #[.int .u64 x, .int .u64 y, .int .i64 mode] w fun e w' => e = .returned (.bool true) ∧ Below w.heap.size w w' := by
  have HT : Hid (∀ W : World, Below w.heap.size w W → TabD W) := fun W hW => hT.below hW
  have LV : Hid (∀ W : World, Below w.heap.size w W → Calls Tryd.prog 55 #[] W fun e w' => e = .returned (.bool true) ∧ Below W.heap.size W w') := fun W hW => lives_c W (HT.out W hW)
  have A1 : Hid (∀ W : World, Below w.heap.size w W → Calls Tryd.prog 45 #[.int .u64 x, .int .u64 y, .int .i64 mode] W (DC.RetB W (ATv (AT [x, y] mode)))) := fun W hW => Add_c x y mode W hx hy (HT.out W hW)
  have A2 : Hid (∀ W : World, Below w.heap.size w W → Calls Tryd.prog 45 #[.int .u64 y, .int .u64 x, .int .i64 mode] W (DC.RetB W (ATv (AT [x, y] mode)))) := fun W hW => by
    have := Add_c y x mode W hy hx (HT.out W hW)
    rwa [AT_comm hy hx] at this
  have D := Lib.hid (Below.refl w.heap.size w)
  by_cases hm : 0 ≤ mode ∧ mode ≤ 4
  · obtain ⟨a, b, hA⟩ := AT_ok hm (by simp) (u2 hx hy)
    rw [hA] at A1 A2
    have t3 := turn3 hx hy hm
    have hm' : 0 ≤ tm mode ∧ tm mode ≤ 4 := by unfold tm; split; omega; split <;> omega
    obtain ⟨g, gl, hG⟩ := AT_ok hm (by simp) (u2 hx (F.neg_bd y hy.1 hy.2))
    obtain ⟨i, il, hI⟩ := AT_ok hm' (by simp) (u2 hy (F.neg_bd x hx.1 hx.2))
    have bg := AT_bd mode (u2 hx (F.neg_bd y hy.1 hy.2))
    have bi := AT_bd (tm mode) (u2 hy (F.neg_bd x hx.1 hx.2))
    have S1 : Hid (∀ W : World, Below w.heap.size w W → Calls Tryd.prog 46 #[.int .u64 x, .int .u64 y, .int .i64 mode] W (DC.RetB W (ATv (g, gl, 0)))) := fun W hW => by
      have := Sub_c x y mode W hx hy (HT.out W hW)
      rwa [hG] at this
    have S2 : Hid (∀ W : World, Below w.heap.size w W → Calls Tryd.prog 46 #[.int .u64 y, .int .u64 x, .int .i64 (tm mode)] W (DC.RetB W (ATv (i, il, 0)))) := fun W hW => by
      have := Sub_c y x (tm mode) W hy hx (HT.out W hW)
      rwa [hI] at this
    rw [hG, hI] at t3
    rw [hG] at bg
    rw [hI] at bi
    dsimp only at t3 bg bi
    have CG : Hid (∀ W : World, Calls Tryd.prog 57 #[.int .u64 g] W fun e w' => e = .returned (.int .i64 (F.cls g)) ∧ W = w') := fun W => FloatC.Class_c g bg.1 bg.2 W
    have CI : Hid (∀ W : World, Calls Tryd.prog 57 #[.int .u64 i] W fun e w' => e = .returned (.int .i64 (F.cls i)) ∧ W = w') := fun W => FloatC.Class_c i bi.1 bi.2 W
    have NG : Hid (∀ W : World, Calls Tryd.prog 58 #[.int .u64 g] W fun e w' => e = .returned (.int .u64 (F.neg g)) ∧ W = w') := fun W => FloatC.Neg_c g bg.1 bg.2 W
    unfold ATv at A1 A2 S1 S2
    dsimp only at A1 A2 S1 S2
    have o := other_tm hm
    generalize tm mode = mo at *
    have ta : (a != a) = false := by simp
    have tb : (b != b) = false := by simp
    clear hA hG hI hm hm' hT hx hy bg bi
    generalize F.cls g = cg at *
    generalize F.cls i = ci at *
    have O2 : Hid (∀ W : World, Calls Tryd.prog 56 #[.slice (some ⟨W.heap.size, 0, none⟩) 2 2] (W.alloc (.cells #[.int .i64 0, .int .i64 0] 26)) fun e w' => e = .returned (.bool true) ∧ W.alloc (.cells #[.int .i64 0, .int .i64 0] 26) = w') := fun W => ok2' W 0 0 true rfl
    rcases t3 with ⟨rfl, rfl⟩ | ⟨rfl, rfl⟩ | ⟨hc, c5, c1, hn⟩
    · rcases o with ⟨rfl, rfl⟩ | ⟨rfl, rfl⟩ | ⟨m1, m2, rfl⟩
      all_goals (
        go_enter Tryd.func9, Tryd.ntmps9
        go_wp2_with (first
          | (go_at_call 45; (with_reducible refine (A1.out _ D.out).mono ?_); rintro e w1 ⟨rfl, hb⟩; have D := Lib.hid (D.out.trans (hb.mono D.out.size)); clear hb)
          | (go_at_call 45; (with_reducible refine (A2.out _ D.out).mono ?_); rintro e w2 ⟨rfl, hb⟩; have D := Lib.hid (D.out.trans (hb.mono D.out.size)); clear hb)
          | (go_at_call 55; (with_reducible refine (LV.out _ D.out).mono ?_); rintro e w3 ⟨rfl, hb⟩; have D := Lib.hid (D.out.trans (hb.mono D.out.size)); clear hb)
          | (go_at_call 46; (with_reducible refine (S1.out _ D.out).mono ?_); rintro e w4 ⟨rfl, hb⟩; have D := Lib.hid (D.out.trans (hb.mono D.out.size)); clear hb)
          | (go_at_call 46; (with_reducible refine (S2.out _ D.out).mono ?_); rintro e w5 ⟨rfl, hb⟩; have D := Lib.hid (D.out.trans (hb.mono D.out.size)); clear hb)
          | (go_at_call 56; (with_reducible refine (O2.out w5).mono ?_); rintro e w6 ⟨rfl, hw⟩; have s := al1 w5 (.cells #[.int .i64 0, .int .i64 0] 26); rw [hw] at s; clear hw; have D := Lib.hid (D.out.trans (s.mono D.out.size)); clear s)
          | (go_at_call 57; (with_reducible refine (CG.out _).mono ?_); rintro e w7 ⟨rfl, rfl⟩)
          | (go_at_call 57; (with_reducible refine (CI.out _).mono ?_); rintro e w8 ⟨rfl, rfl⟩))
        go_ret
        exact ⟨rfl, D.out⟩)
    · rcases o with ⟨rfl, rfl⟩ | ⟨rfl, rfl⟩ | ⟨m1, m2, rfl⟩
      all_goals (
        go_enter Tryd.func9, Tryd.ntmps9
        go_wp2_with (first
          | (go_at_call 45; (with_reducible refine (A1.out _ D.out).mono ?_); rintro e w1 ⟨rfl, hb⟩; have D := Lib.hid (D.out.trans (hb.mono D.out.size)); clear hb)
          | (go_at_call 45; (with_reducible refine (A2.out _ D.out).mono ?_); rintro e w2 ⟨rfl, hb⟩; have D := Lib.hid (D.out.trans (hb.mono D.out.size)); clear hb)
          | (go_at_call 55; (with_reducible refine (LV.out _ D.out).mono ?_); rintro e w3 ⟨rfl, hb⟩; have D := Lib.hid (D.out.trans (hb.mono D.out.size)); clear hb)
          | (go_at_call 46; (with_reducible refine (S1.out _ D.out).mono ?_); rintro e w4 ⟨rfl, hb⟩; have D := Lib.hid (D.out.trans (hb.mono D.out.size)); clear hb)
          | (go_at_call 46; (with_reducible refine (S2.out _ D.out).mono ?_); rintro e w5 ⟨rfl, hb⟩; have D := Lib.hid (D.out.trans (hb.mono D.out.size)); clear hb)
          | (go_at_call 56; (with_reducible refine (O2.out w5).mono ?_); rintro e w6 ⟨rfl, hw⟩; have s := al1 w5 (.cells #[.int .i64 0, .int .i64 0] 26); rw [hw] at s; clear hw; have D := Lib.hid (D.out.trans (s.mono D.out.size)); clear s)
          | (go_at_call 57; (with_reducible refine (CG.out _).mono ?_); rintro e w7 ⟨rfl, rfl⟩)
          | (go_at_call 57; (with_reducible refine (CI.out _).mono ?_); rintro e w8 ⟨rfl, rfl⟩))
        go_ret
        exact ⟨rfl, D.out⟩)
    · have c5' : (cg == 5) = false := by simp [c5]
      have c1' : (cg == 1) = false := by simp [c1]
      rw [hc] at CI
      rw [hn] at S2 CI
      have tn : (F.neg g == F.neg g) = true := by simp
      clear c5 c1 hc hn
      generalize F.neg g = ng at *
      rcases o with ⟨rfl, rfl⟩ | ⟨rfl, rfl⟩ | ⟨m1, m2, rfl⟩
      all_goals (
        go_enter Tryd.func9, Tryd.ntmps9
        go_wp2_with (first
          | (go_at_call 45; (with_reducible refine (A1.out _ D.out).mono ?_); rintro e w1 ⟨rfl, hb⟩; have D := Lib.hid (D.out.trans (hb.mono D.out.size)); clear hb)
          | (go_at_call 45; (with_reducible refine (A2.out _ D.out).mono ?_); rintro e w2 ⟨rfl, hb⟩; have D := Lib.hid (D.out.trans (hb.mono D.out.size)); clear hb)
          | (go_at_call 55; (with_reducible refine (LV.out _ D.out).mono ?_); rintro e w3 ⟨rfl, hb⟩; have D := Lib.hid (D.out.trans (hb.mono D.out.size)); clear hb)
          | (go_at_call 46; (with_reducible refine (S1.out _ D.out).mono ?_); rintro e w4 ⟨rfl, hb⟩; have D := Lib.hid (D.out.trans (hb.mono D.out.size)); clear hb)
          | (go_at_call 46; (with_reducible refine (S2.out _ D.out).mono ?_); rintro e w5 ⟨rfl, hb⟩; have D := Lib.hid (D.out.trans (hb.mono D.out.size)); clear hb)
          | (go_at_call 56; (with_reducible refine (O2.out w5).mono ?_); rintro e w6 ⟨rfl, hw⟩; have s := al1 w5 (.cells #[.int .i64 0, .int .i64 0] 26); rw [hw] at s; clear hw; have D := Lib.hid (D.out.trans (s.mono D.out.size)); clear s)
          | (go_at_call 57; (with_reducible refine (CG.out _).mono ?_); rintro e w7 ⟨rfl, rfl⟩)
          | (go_at_call 57; (with_reducible refine (CI.out _).mono ?_); rintro e w8 ⟨rfl, rfl⟩)
          | (go_at_call 58; (with_reducible refine (NG.out _).mono ?_); rintro e w9 ⟨rfl, rfl⟩))
        go_ret
        exact ⟨rfl, D.out⟩)
  · rw [AT_no hm] at A1 A2
    unfold ATv at A1 A2
    clear hm hT hx hy
    go_enter Tryd.func9, Tryd.ntmps9
    go_wp2_with (first
      | (go_at_call 45; (with_reducible refine (A1.out _ D.out).mono ?_); rintro e w1 ⟨rfl, hb⟩; have D := Lib.hid (D.out.trans (hb.mono D.out.size)); clear hb)
      | (go_at_call 45; (with_reducible refine (A2.out _ D.out).mono ?_); rintro e w2 ⟨rfl, hb⟩; have D := Lib.hid (D.out.trans (hb.mono D.out.size)); clear hb)
      | (go_at_call 55; (with_reducible refine (LV.out _ D.out).mono ?_); rintro e w3 ⟨rfl, hb⟩; have D := Lib.hid (D.out.trans (hb.mono D.out.size)); clear hb))
    go_ret
    exact ⟨rfl, D.out⟩
set_option maxRecDepth 100000 in
theorem small_c (x y mode : Int) (w : World) (hx : 0 ≤ x ∧ x ≤ 18446744073709551615) (hy : 0 ≤ y ∧ y ≤ 18446744073709551615) (hT : TabD w) :
    Calls Tryd.prog 12 #[.int .u64 x, .int .u64 y, .int .i64 mode] w fun e w' => e = .returned (.bool true) ∧ Below w.heap.size w w' := by
  have HT : Hid (∀ W : World, Below w.heap.size w W → TabD W) := fun W hW => hT.below hW
  have LV : Hid (∀ W : World, Below w.heap.size w W → Calls Tryd.prog 55 #[] W fun e w' => e = .returned (.bool true) ∧ Below W.heap.size W w') := fun W hW => lives_c W (HT.out W hW)
  have A1 : Hid (∀ W : World, Below w.heap.size w W → Calls Tryd.prog 45 #[.int .u64 x, .int .u64 y, .int .i64 mode] W (DC.RetB W (ATv (AT [x, y] mode)))) := fun W hW => Add_c x y mode W hx hy (HT.out W hW)
  have D := Lib.hid (Below.refl w.heap.size w)
  by_cases hm : 0 ≤ mode ∧ mode ≤ 4
  · obtain ⟨a, b, hA⟩ := AT_ok hm (by simp) (u2 hx hy)
    have ba := AT_bd mode (u2 hx hy)
    have sp := small_sum hm hx hy
    rw [hA] at A1 ba sp
    dsimp only at ba sp
    unfold ATv at A1
    have CA : Hid (∀ W : World, Calls Tryd.prog 57 #[.int .u64 a] W fun e w' => e = .returned (.int .i64 (F.cls a)) ∧ W = w') := fun W => FloatC.Class_c a ba.1 ba.2 W
    generalize F.cls a = c at *
    clear hA hm hT hx hy ba
    by_cases hc : c ≤ 2
    · obtain rfl := sp hc
      have hc2 : ¬ c > 2 := by omega
      clear sp
      go_enter Tryd.func12, Tryd.ntmps12
      go_wp2_with (first
        | (go_at_call 45; (with_reducible refine (A1.out _ D.out).mono ?_); rintro e w1 ⟨rfl, hb⟩; have D := Lib.hid (D.out.trans (hb.mono D.out.size)); clear hb)
        | (go_at_call 55; (with_reducible refine (LV.out _ D.out).mono ?_); rintro e w3 ⟨rfl, hb⟩; have D := Lib.hid (D.out.trans (hb.mono D.out.size)); clear hb)
        | (go_at_call 57; (with_reducible refine (CA.out _).mono ?_); rintro e w7 ⟨rfl, rfl⟩))
      go_ret
      exact ⟨rfl, D.out⟩
    · have hc2 : c > 2 := by omega
      clear sp
      go_enter Tryd.func12, Tryd.ntmps12
      go_wp2_with (first
        | (go_at_call 45; (with_reducible refine (A1.out _ D.out).mono ?_); rintro e w1 ⟨rfl, hb⟩; have D := Lib.hid (D.out.trans (hb.mono D.out.size)); clear hb)
        | (go_at_call 55; (with_reducible refine (LV.out _ D.out).mono ?_); rintro e w3 ⟨rfl, hb⟩; have D := Lib.hid (D.out.trans (hb.mono D.out.size)); clear hb)
        | (go_at_call 57; (with_reducible refine (CA.out _).mono ?_); rintro e w7 ⟨rfl, rfl⟩))
      go_ret
      exact ⟨rfl, D.out⟩
  · rw [AT_no hm] at A1
    unfold ATv at A1
    clear hm hT hx hy
    go_enter Tryd.func12, Tryd.ntmps12
    go_wp2_with (first
      | (go_at_call 45; (with_reducible refine (A1.out _ D.out).mono ?_); rintro e w1 ⟨rfl, hb⟩; have D := Lib.hid (D.out.trans (hb.mono D.out.size)); clear hb)
      | (go_at_call 55; (with_reducible refine (LV.out _ D.out).mono ?_); rintro e w3 ⟨rfl, hb⟩; have D := Lib.hid (D.out.trans (hb.mono D.out.size)); clear hb))
    go_ret
    exact ⟨rfl, D.out⟩
end SC
end Go.Proofs.YtcendlgbcnpfcaaDoor

/-
  SumOrder: the walk.
-/
namespace Go.Proofs.YtcendlgbcnpfcaaDoor
set_option linter.unusedVariables false
set_option linter.unusedSimpArgs false
open Go.RowKit
set_option linter.unusedVariables false
set_option linter.unusedSimpArgs false
namespace SC
open L NC NK DC RC
/-- Rank of whatever number -/
theorem Rank_g {x : Int} (hx : 0 ≤ x ∧ x ≤ 18446744073709551615) : ∃ k e : Int, (∀ W : World, Calls Tryd.prog 60 #[.int .u64 x] W fun e' w' => e' = .returned (.tuple #[.int .i64 k, .int .i64 e]) ∧ W = w') ∧ (e = 0 → F.nn x ∧ k = F.rnk x) := by
  by_cases h : F.nn x
  · exact ⟨F.rnk x, 0, fun W => FloatC.Rank_ok x hx.1 hx.2 h W, fun _ => ⟨h, rfl⟩⟩
  · exact ⟨0, 4, fun W => FloatC.Rank_no x hx.1 hx.2 (by unfold F.nn at h; omega) W, fun h => by cases h⟩
theorem all4o {x1 x2 x3 x4 : Int} (h : [x1, x2, x3, x4].all (· == 0) = true) : x1 = 0 ∧ x2 = 0 ∧ x3 = 0 ∧ x4 = 0 := by
  simpa [List.all_cons, Bool.and_eq_true] using h
theorem all2o {x1 x2 : Int} (h : [x1, x2].all (· == 0) = true) : x1 = 0 ∧ x2 = 0 := by
  simpa [List.all_cons, Bool.and_eq_true] using h
set_option maxRecDepth 100000 in
set_option maxHeartbeats 8000000 in
theorem order_c (x y z mode : Int) (w : World) (hx : 0 ≤ x ∧ x ≤ 18446744073709551615) (hy : 0 ≤ y ∧ y ≤ 18446744073709551615) (hz : 0 ≤ z ∧ z ≤ 18446744073709551615) (hT : TabD w) :
    Calls Tryd.prog 11 #[.int .u64 x, .int .u64 y, .int .u64 z, .int .i64 mode] w fun e w' => e = .returned (.bool true) ∧ Below w.heap.size w w' := by
  have HT : Hid (∀ W : World, Below w.heap.size w W → TabD W) := fun W hW => hT.below hW
  have LV : Hid (∀ W : World, Below w.heap.size w W → Calls Tryd.prog 55 #[] W fun e w' => e = .returned (.bool true) ∧ Below W.heap.size W w') := fun W hW => lives_c W (HT.out W hW)
  have A1 : Hid (∀ W : World, Below w.heap.size w W → Calls Tryd.prog 45 #[.int .u64 x, .int .u64 z, .int .i64 mode] W (DC.RetB W (ATv (AT [x, z] mode)))) := fun W hW => Add_c x z mode W hx hz (HT.out W hW)
  have A2 : Hid (∀ W : World, Below w.heap.size w W → Calls Tryd.prog 45 #[.int .u64 y, .int .u64 z, .int .i64 mode] W (DC.RetB W (ATv (AT [y, z] mode)))) := fun W hW => Add_c y z mode W hy hz (HT.out W hW)
  have D := Lib.hid (Below.refl w.heap.size w)
  obtain ⟨kx, ex, Rx, fx⟩ := Rank_g hx
  obtain ⟨ky, ey, Ry, fy⟩ := Rank_g hy
  obtain ⟨kz, ez, Rz, fz⟩ := Rank_g hz
  obtain ⟨ka, ea, Ra, fa⟩ := Rank_g (AT_bd mode (u2 hx hz))
  obtain ⟨kb, eb, Rb, fb⟩ := Rank_g (AT_bd mode (u2 hy hz))
  have Rx := Lib.hid Rx
  have Ry := Lib.hid Ry
  have Rz := Lib.hid Rz
  have Ra := Lib.hid Ra
  have Rb := Lib.hid Rb
  have E1 := AT_e (L := [x, z]) (mode := mode) (by simp) (u2 hx hz)
  have P1 : ex = 0 → ey = 0 → (AT [x, z] mode).2.2 = 0 → kx ≤ ky → ea = 0 → eb = 0 → ka ≤ kb := fun h1 h2 h3 h4 h5 h6 => by
    obtain ⟨n1, rfl⟩ := fx h1
    obtain ⟨n2, rfl⟩ := fy h2
    obtain ⟨n3, rfl⟩ := fa h5
    obtain ⟨n4, rfl⟩ := fb h6
    exact order_sum (E1.1 h3) hx hy hz n1 n2 h4 n3 n4
  have P2 : ex = 0 → (AT [x, z] mode).2.2 = 0 → ea = 0 → ez = 0 → 0 ≤ kz → kx ≤ ka := fun h1 h3 h5 h6 h7 => by
    obtain ⟨n1, rfl⟩ := fx h1
    obtain ⟨n3, rfl⟩ := fa h5
    obtain ⟨n4, rfl⟩ := fz h6
    exact order_up (E1.1 h3) hx hz n1 n3 h7
  clear fx fy fz fa fb E1 hT hx hy hz
  generalize AT [x, z] mode = ta at *
  generalize AT [y, z] mode = tb at *
  obtain ⟨a, la, e1⟩ := ta
  obtain ⟨b, lb, e2⟩ := tb
  unfold ATv at A1 A2
  dsimp only at A1 A2 P1 P2 Ra Rb
  obtain ⟨o, ho⟩ : ∃ o, [ex, ey, e1, e2].all (· == 0) = o := ⟨_, rfl⟩
  have O4 : Hid (∀ W : World, Calls Tryd.prog 56 #[.slice (some ⟨W.heap.size, 0, none⟩) 4 4] (W.alloc (.cells #[.int .i64 ex, .int .i64 ey, .int .i64 e1, .int .i64 e2] 26)) fun e w' => e = .returned (.bool o) ∧ W.alloc (.cells #[.int .i64 ex, .int .i64 ey, .int .i64 e1, .int .i64 e2] 26) = w') := fun W => NK.ok4 W ex ey e1 e2 o ho
  cases o
  · clear P1 P2 ho
    go_enter Tryd.func11, Tryd.ntmps11
    go_wp2_with (first
      | (go_at_call 60; (with_reducible refine (Rx.out _).mono ?_); rintro e w1 ⟨rfl, rfl⟩)
      | (go_at_call 60; (with_reducible refine (Ry.out _).mono ?_); rintro e w2 ⟨rfl, rfl⟩)
      | (go_at_call 45; (with_reducible refine (A1.out _ D.out).mono ?_); rintro e w3 ⟨rfl, hb⟩; have D := Lib.hid (D.out.trans (hb.mono D.out.size)); clear hb)
      | (go_at_call 45; (with_reducible refine (A2.out _ D.out).mono ?_); rintro e w4 ⟨rfl, hb⟩; have D := Lib.hid (D.out.trans (hb.mono D.out.size)); clear hb)
      | (go_at_call 55; (with_reducible refine (LV.out _ D.out).mono ?_); rintro e w5 ⟨rfl, hb⟩; have D := Lib.hid (D.out.trans (hb.mono D.out.size)); clear hb)
      | (go_at_call 56; (with_reducible refine (O4.out w5).mono ?_); rintro e w6 ⟨rfl, hw⟩; have s := al1 w5 (.cells #[.int .i64 ex, .int .i64 ey, .int .i64 e1, .int .i64 e2] 26); rw [hw] at s; clear hw; have D := Lib.hid (D.out.trans (s.mono D.out.size)); clear s))
    go_ret
    exact ⟨rfl, D.out⟩
  · obtain ⟨h1, h2, h3, h4⟩ := all4o ho
    have P1 := P1 h1 h2 h3
    have P2 := P2 h1 h3
    clear ho h1 h2 h3 h4
    by_cases hk : kx > ky
    · clear P1 P2
      go_enter Tryd.func11, Tryd.ntmps11
      go_wp2_with (first
        | (go_at_call 60; (with_reducible refine (Rx.out _).mono ?_); rintro e w1 ⟨rfl, rfl⟩)
        | (go_at_call 60; (with_reducible refine (Ry.out _).mono ?_); rintro e w2 ⟨rfl, rfl⟩)
        | (go_at_call 45; (with_reducible refine (A1.out _ D.out).mono ?_); rintro e w3 ⟨rfl, hb⟩; have D := Lib.hid (D.out.trans (hb.mono D.out.size)); clear hb)
        | (go_at_call 45; (with_reducible refine (A2.out _ D.out).mono ?_); rintro e w4 ⟨rfl, hb⟩; have D := Lib.hid (D.out.trans (hb.mono D.out.size)); clear hb)
        | (go_at_call 55; (with_reducible refine (LV.out _ D.out).mono ?_); rintro e w5 ⟨rfl, hb⟩; have D := Lib.hid (D.out.trans (hb.mono D.out.size)); clear hb)
        | (go_at_call 56; (with_reducible refine (O4.out w5).mono ?_); rintro e w6 ⟨rfl, hw⟩; have s := al1 w5 (.cells #[.int .i64 ex, .int .i64 ey, .int .i64 e1, .int .i64 e2] 26); rw [hw] at s; clear hw; have D := Lib.hid (D.out.trans (s.mono D.out.size)); clear s))
      go_ret
      exact ⟨rfl, D.out⟩
    · have P1 := P1 (by omega)
      obtain ⟨o2, ho2⟩ : ∃ o, [ea, eb].all (· == 0) = o := ⟨_, rfl⟩
      obtain ⟨o3, ho3⟩ : ∃ o, [ea, ez].all (· == 0) = o := ⟨_, rfl⟩
      have O2 : Hid (∀ W : World, Calls Tryd.prog 56 #[.slice (some ⟨W.heap.size, 0, none⟩) 2 2] (W.alloc (.cells #[.int .i64 ea, .int .i64 eb] 26)) fun e w' => e = .returned (.bool o2) ∧ W.alloc (.cells #[.int .i64 ea, .int .i64 eb] 26) = w') := fun W => ok2' W ea eb o2 ho2
      have O3 : Hid (∀ W : World, Calls Tryd.prog 56 #[.slice (some ⟨W.heap.size, 0, none⟩) 2 2] (W.alloc (.cells #[.int .i64 ea, .int .i64 ez] 26)) fun e w' => e = .returned (.bool o3) ∧ W.alloc (.cells #[.int .i64 ea, .int .i64 ez] 26) = w') := fun W => ok2' W ea ez o3 ho3
      have c2 : o2 = false ∨ (o2 = true ∧ ¬ ka > kb) := by
        cases o2
        · exact .inl rfl
        · right
          obtain ⟨h1, h2⟩ := all2o ho2
          have := P1 h1 h2
          exact ⟨rfl, by omega⟩
      have c3 : o3 = false ∨ (o3 = true ∧ kz < 0) ∨ (o3 = true ∧ ¬ kz < 0 ∧ ka ≥ kx) := by
        cases o3
        · exact .inl rfl
        · right
          obtain ⟨h1, h2⟩ := all2o ho3
          by_cases hz : kz < 0
          · exact .inl ⟨rfl, hz⟩
          · have := P2 h1 h2 (by omega)
            exact .inr ⟨rfl, hz, by omega⟩
      clear P1 P2 ho2 ho3
      rcases c2 with rfl | ⟨rfl, c2⟩
      all_goals (
        rcases c3 with rfl | ⟨rfl, c3⟩ | ⟨rfl, c3, c4⟩
        all_goals (
          go_enter Tryd.func11, Tryd.ntmps11
          go_wp2_with (first
            | (go_at_call 60; (with_reducible refine (Rx.out _).mono ?_); rintro e w1 ⟨rfl, rfl⟩)
            | (go_at_call 60; (with_reducible refine (Ry.out _).mono ?_); rintro e w2 ⟨rfl, rfl⟩)
            | (go_at_call 45; (with_reducible refine (A1.out _ D.out).mono ?_); rintro e w3 ⟨rfl, hb⟩; have D := Lib.hid (D.out.trans (hb.mono D.out.size)); clear hb)
            | (go_at_call 45; (with_reducible refine (A2.out _ D.out).mono ?_); rintro e w4 ⟨rfl, hb⟩; have D := Lib.hid (D.out.trans (hb.mono D.out.size)); clear hb)
            | (go_at_call 55; (with_reducible refine (LV.out _ D.out).mono ?_); rintro e w5 ⟨rfl, hb⟩; have D := Lib.hid (D.out.trans (hb.mono D.out.size)); clear hb)
            | (go_at_call 56; (with_reducible refine (O4.out w5).mono ?_); rintro e w6 ⟨rfl, hw⟩; have s := al1 w5 (.cells #[.int .i64 ex, .int .i64 ey, .int .i64 e1, .int .i64 e2] 26); rw [hw] at s; clear hw; have D := Lib.hid (D.out.trans (s.mono D.out.size)); clear s)
            | (go_at_call 60; (with_reducible refine (Ra.out _).mono ?_); rintro e w7 ⟨rfl, rfl⟩)
            | (go_at_call 60; (with_reducible refine (Rb.out _).mono ?_); rintro e w8 ⟨rfl, rfl⟩)
            | (go_at_call 56; (with_reducible refine (O2.out w6).mono ?_); rintro e w9 ⟨rfl, hw⟩; have s := al1 w6 (.cells #[.int .i64 ea, .int .i64 eb] 26); rw [hw] at s; clear hw; have D := Lib.hid (D.out.trans (s.mono D.out.size)); clear s)
            | (go_at_call 60; (with_reducible refine (Rz.out _).mono ?_); rintro e w10 ⟨rfl, rfl⟩)
            | (go_at_call 56; (with_reducible refine (O3.out w9).mono ?_); rintro e w11 ⟨rfl, hw⟩; have s := al1 w9 (.cells #[.int .i64 ea, .int .i64 ez] 26); rw [hw] at s; clear hw; have D := Lib.hid (D.out.trans (s.mono D.out.size)); clear s))
          go_ret
          exact ⟨rfl, D.out⟩))
end SC
end Go.Proofs.YtcendlgbcnpfcaaDoor

/-
  SumSterbenz: value; four boxed Dyads.
-/
namespace Go.Proofs.YtcendlgbcnpfcaaDoor
set_option linter.unusedVariables false
set_option linter.unusedSimpArgs false
open Go.RowKit
set_option linter.unusedVariables false
set_option linter.unusedSimpArgs false
namespace SC
open L NC NK DC RC
/-- value: a Dyad in its form, and if there is one -/
def RetVb (w : World) (d : Dy) (o : Bool) (e : Ending) (w' : World) : Prop := ∃ b A n c x, e = .returned (.tuple #[.agg #[.bool b, .slice A n c, .int .i64 x], .bool o]) ∧ GV w' b A n c x d ∧ Below w.heap.size w w'
theorem value_c (x : Int) (w : World) (h0 : 0 ≤ x) (h1 : x ≤ 18446744073709551615) (hT : TabD w) : Calls Tryd.prog 59 #[.int .u64 x] w (RetVb w (OfD x).d ((OfD x).e == 0)) := by
  obtain ⟨W0, hW0, D0, ZS, KB⟩ := res0 w
  have OF := Lib.hid (Of_d x h0 h1 W0 (hT.below D0))
  have KB := Lib.hid KB
  have D0 := Lib.hid D0
  have HW0 := Lib.hid hW0
  generalize OfD x = r at *
  clear hW0 h0 h1 hT
  go_enter Tryd.func59, Tryd.ntmps59
  go_wp2_with (first
    | (go_at_call 14; rw [HW0.out]; (with_reducible refine (OF.out).mono ?_); rintro e w5 ⟨b5, A5, n5, c5, x5, rfl, hv5, hb0⟩; have s := hb0.alloc hb0.size (.cells #[.bool b5, .slice A5 n5 c5, .int .i64 x5] 25); have D := Lib.hid s; obtain ⟨p0, p1, p2⟩ := BX.new w5 b5 A5 n5 c5 x5; have hv6 := hv5.below (al1 w5 (.cells #[.bool b5, .slice A5 n5 c5, .int .i64 x5] 25)); have R2 := KB.out _ D.out; have t0 := R2.at_ 0 rfl; have t1 := R2.at_ 1 rfl; have t2 := R2.at_ 2 rfl; have f0 := R2.frozen 0; have f1 := R2.frozen 1; have f2 := R2.frozen 2; have R2 := Lib.hid R2))
  exact bodyPost_ret (v := .tuple #[.agg #[.bool b5, .slice A5 n5 c5, .int .i64 x5], .bool (r.e == 0)]) (by simp [results, Tryd.results59, go_sem, t0, t1, t2]) rfl
    ⟨_, _, _, _, _, rfl, hv6.set3 R2.out _ _ _ (by intro z h; cases h) (by intro z h; cases h), below3 (D0.out.trans (D.out.mono D0.out.size)) (by omega) _ _ _⟩
def dc (b : Bool) (A : Option Addr) (n c : Nat) (x : Int) : Array Value := #[.bool b, .slice A n c, .int .i64 x]
/-- four boxes -/
structure Four (W0 W : World) (ga gb gp gq : Nat) (ba : Bool) (Aa : Option Addr) (na ca : Nat) (xa : Int) (bb : Bool) (Ab : Option Addr) (nb cb : Nat) (xb : Int) (bp : Bool) (Ap : Option Addr) (np cp : Nat) (xp : Int) (bq : Bool) (Aq : Option Addr) (nq cq : Nat) (xq : Int) (da db dp dq : Dy) : Prop where
  ka : Blk W ga 25 #[.bool ba, .slice Aa na ca, .int .i64 xa]
  kb : Blk W gb 25 #[.bool bb, .slice Ab nb cb, .int .i64 xb]
  kp : Blk W gp 25 #[.bool bp, .slice Ap np cp, .int .i64 xp]
  kq : Blk W gq 25 #[.bool bq, .slice Aq nq cq, .int .i64 xq]
  va : GV W ba Aa na ca xa da
  vb : GV W bb Ab nb cb xb db
  vp : GV W bp Ap np cp xp dp
  vq : GV W bq Aq nq cq xq dq
  D : Below W0.heap.size W0 W
  hp : W0.heap.size ≤ gp
  hq : W0.heap.size ≤ gq
  ap : ga ≠ gp
  aq : ga ≠ gq
  bp' : gb ≠ gp
  bq' : gb ≠ gq
  pq : gp ≠ gq
theorem Four.below {W0 W W' : World} {ga gb gp gq : Nat} {ba : Bool} {Aa : Option Addr} {na ca : Nat} {xa : Int} {bb : Bool} {Ab : Option Addr} {nb cb : Nat} {xb : Int} {bp : Bool} {Ap : Option Addr} {np cp : Nat} {xp : Int} {bq : Bool} {Aq : Option Addr} {nq cq : Nat} {xq : Int} {da db dp dq : Dy} (h : Four W0 W ga gb gp gq ba Aa na ca xa bb Ab nb cb xb bp Ap np cp xp bq Aq nq cq xq  da db dp dq) (hb : Below W.heap.size W W') : Four W0 W' ga gb gp gq ba Aa na ca xa bb Ab nb cb xb bp Ap np cp xp bq Aq nq cq xq  da db dp dq :=
  ⟨h.ka.below hb h.ka.lt, h.kb.below hb h.kb.lt, h.kp.below hb h.kp.lt, h.kq.below hb h.kq.lt, h.va.below hb, h.vb.below hb, h.vp.below hb, h.vq.below hb, h.D.trans (hb.mono h.D.size), h.hp, h.hq, h.ap, h.aq, h.bp', h.bq', h.pq⟩
theorem Blk.far3 {w : World} {g g' : Nat} {t : TypeId} {cs : Array Value} (h : Blk w g t cs) (hg : g ≠ g') (x y z : Value) : Blk (((w.setCell ⟨g', 0, none⟩ x).setCell ⟨g', 1, none⟩ y).setCell ⟨g', 2, none⟩ z) g t cs :=
  ((h.far (by simpa using hg) _).far (by simpa using hg) _).far (by simpa using hg) _
/-- both last ones exchanged -/
theorem Four.swap {W0 W : World} {ga gb gp gq : Nat} {ba : Bool} {Aa : Option Addr} {na ca : Nat} {xa : Int} {bb : Bool} {Ab : Option Addr} {nb cb : Nat} {xb : Int} {bp : Bool} {Ap : Option Addr} {np cp : Nat} {xp : Int} {bq : Bool} {Aq : Option Addr} {nq cq : Nat} {xq : Int} {da db dp dq : Dy} (h : Four W0 W ga gb gp gq ba Aa na ca xa bb Ab nb cb xb bp Ap np cp xp bq Aq nq cq xq  da db dp dq) :
    Four W0 ((((((W.setCell ⟨gp, 0, none⟩ (.bool bq)).setCell ⟨gp, 1, none⟩ (.slice Aq nq cq)).setCell ⟨gp, 2, none⟩ (.int .i64 xq)).setCell ⟨gq, 0, none⟩ (.bool bp)).setCell ⟨gq, 1, none⟩ (.slice Ap np cp)).setCell ⟨gq, 2, none⟩ (.int .i64 xp)) ga gb gp gq ba Aa na ca xa bb Ab nb cb xb bq Aq nq cq xq bp Ap np cp xp  da db dq dp := by
  have kq1 := Blk.far3 h.kq h.pq.symm (.bool bq) (.slice Aq nq cq) (.int .i64 xq)
  have set1 : ∀ {b A n c x d}, GV W b A n c x d → GV (((W.setCell ⟨gp, 0, none⟩ (.bool bq)).setCell ⟨gp, 1, none⟩ (.slice Aq nq cq)).setCell ⟨gp, 2, none⟩ (.int .i64 xq)) b A n c x d := fun g => g.set3 h.kp _ _ _ (by intro z h; cases h) (by intro z h; cases h)
  have set2 : ∀ {b A n c x d}, GV W b A n c x d → GV ((((((W.setCell ⟨gp, 0, none⟩ (.bool bq)).setCell ⟨gp, 1, none⟩ (.slice Aq nq cq)).setCell ⟨gp, 2, none⟩ (.int .i64 xq)).setCell ⟨gq, 0, none⟩ (.bool bp)).setCell ⟨gq, 1, none⟩ (.slice Ap np cp)).setCell ⟨gq, 2, none⟩ (.int .i64 xp)) b A n c x d := fun g => (set1 g).set3 kq1 _ _ _ (by intro z h; cases h) (by intro z h; cases h)
  exact ⟨Blk.far3 (Blk.far3 h.ka h.ap _ _ _) h.aq _ _ _, Blk.far3 (Blk.far3 h.kb h.bp' _ _ _) h.bq' _ _ _, Blk.far3 (Blk3 h.kp _ _ _) h.pq _ _ _, Blk3 kq1 _ _ _,
    set2 h.va, set2 h.vb, set2 h.vq, set2 h.vp, below3 (below3 h.D h.hp _ _ _) h.hq _ _ _, h.hp, h.hq, h.ap, h.aq, h.bp', h.bq', h.pq⟩
end SC
end Go.Proofs.YtcendlgbcnpfcaaDoor

/-
  DyadBack: the walk.
-/
namespace Go.Proofs.YtcendlgbcnpfcaaDoor
set_option linter.unusedVariables false
set_option linter.unusedSimpArgs false
open Go.RowKit
set_option linter.unusedVariables false
namespace DC
open L NC NK
open Z (Nz Tz cmpv)
theorem sub_ok' {a b : Dy} (h : (Sub a b).e = 0) (ga : a.er = 0 → Ok a) (gb : b.er = 0 → Ok b) : a.er = 0 ∧ b.er = 0 ∧ S (Sub a b).d = S a - S b := by
  unfold Sub at h ⊢
  by_cases h0 : ee a.er b.er = 0
  · rw [if_neg (by simpa using h0)] at h ⊢
    have h1 := ee0.1 h0
    have ga := ga h1.1
    have gb := gb h1.2
    have x1 := ga.2.2.2.2.1
    have x2 := gb.2.2.2.2.1
    refine ⟨h1.1, h1.2, ?_⟩
    unfold sum at h ⊢
    unfold S
    have ex : (neg b).x = b.x := rfl
    rw [fin_sc (by omega) h, sc_add, sc_lv2 a (neg b) (by omega)]
    have := sc_lv2 (neg b) a (by omega)
    rw [Int.min_comm (neg b).x a.x] at this
    rw [this]
    show sc a.m a.x + sc (-b.m) b.x = _
    rw [sc_neg]; omega
  · rw [if_pos (by simpa using h0)] at h
    exact absurd h h0
theorem sub_good (a b : Dy) : Ok (Sub a b).d := by
  unfold Sub
  split
  · exact ok_dz
  · exact fin_ok _ _
theorem back_d {a b : Dy} (ga : a.er = 0 → Ok a) (gb : b.er = 0 → Ok b) (h1 : (Add a b).e = 0) (h2 : (Sub (Add a b).d b).e = 0) : (Sub (Add a b).d b).d = a := by
  have h := add_ok h1 ga gb
  apply S_inj (sub_good _ _) (ga h.1)
  rw [(sub_ok' h2 (fun _ => add_good _ _) gb).2.2, h.2.2]; omega
theorem none_d {a : Dy} (h : a.er = 0) : Sub a a = ⟨0, dz⟩ := by
  unfold Sub sum
  rw [if_neg (by rw [h]; decide)]
  have : lv2 a (neg a) + lv2 (neg a) a = 0 := by
    unfold lv2
    show a.m * 2 ^ (a.x - min a.x a.x).toNat + -a.m * 2 ^ (a.x - min a.x a.x).toNat = 0
    rw [Int.neg_mul]; omega
  rw [this, fin_zero]
theorem sub_er {a : Dy} (h : a.er ≠ 0) (b : Dy) : (Sub a b).e ≠ 0 ∧ (Add a b).e ≠ 0 := by
  have : ee a.er b.er ≠ 0 := fun e => h (ee0.1 e).1
  unfold Sub Add
  rw [if_pos this, if_pos this]
  exact ⟨this, this⟩
theorem shf_val {a : Dy} {n : Int} (h0 : a.er = 0) (hn : ¬ (n < -20000 ∨ 20000 < n)) : Shf a n = fin a.m (a.x + n) := by
  unfold Shf
  rw [if_neg (by simpa using h0), if_neg hn]
theorem shf_ok {a : Dy} {n : Int} (h0 : a.er = 0) (ga : Ok a) (h : (Shf a n).e = 0) : -20000 ≤ n ∧ n ≤ 20000 ∧ Shf (Shf a n).d (-n) = ⟨0, a⟩ := by
  by_cases hn : n < -20000 ∨ 20000 < n
  · unfold Shf at h
    rw [if_neg (by simpa using h0), if_pos hn] at h; cases h
  · rw [shf_val h0 hn] at h ⊢
    refine ⟨by omega, by omega, ?_⟩
    rw [shf_val (fin_good _ _).2.1 (by omega)]
    by_cases hm : a.m = 0
    · have hx : a.x = 0 := by have := ga.2.1; unfold can at this; omega
      rw [hm, fin_zero]
      show fin 0 _ = _
      rw [fin_zero]
      have : a = dz := Dy.ext' h0 hm hx
      rw [this]
    · have ho : a.m % 2 = 1 := by have := ga.2.1; unfold can at this; omega
      have e : fin a.m (a.x + n) = if inb a.m (a.x + n + (0 : Nat)) then ⟨0, 0, a.m, a.x + n + (0 : Nat)⟩ else ⟨2, dz⟩ := fin_of (k := 0) (by simp) ho
      rw [e] at h ⊢
      by_cases hi : inb a.m (a.x + n + (0 : Nat))
      · rw [if_pos hi]
        show fin a.m (a.x + n + (0 : Nat) + -n) = _
        rw [show a.x + n + ((0 : Nat) : Int) + -n = a.x by simp; omega]
        exact fin_self h0 (fun _ => ⟨ga.2.1, ga.2.2⟩)
      · rw [if_neg hi] at h; cases h
end DC
end Go.Proofs.YtcendlgbcnpfcaaDoor

