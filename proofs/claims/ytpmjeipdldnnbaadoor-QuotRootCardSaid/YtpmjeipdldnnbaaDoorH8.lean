/-
  Texts glued together for a claim: DK1 DK3 RK1 RK2 UK1 UK2 PK1 UK3.
-/
import Derived.Test.YtpmjeipdldnnbaaDoorH7
/-
  DyadRing: the walk.
-/
namespace Go.Proofs.YtpmjeipdldnnbaaDoor
set_option linter.unusedVariables false
set_option linter.unusedSimpArgs false
open Go.RowKit
set_option linter.unusedVariables false
namespace DC
open L NC NK
open Z (Nz Tz cmpv)
theorem ok2 (W : World) (x1 x2 : Int) (o : Bool) (ho : [x1, x2].all (· == 0) = o) : Calls Tryd.prog 15 #[.slice (some ⟨W.heap.size, 0, none⟩) 2 2] (W.alloc (.cells #[.int .i64 x1, .int .i64 x2] 25)) fun e w' => e = .returned (.bool o) ∧ W.alloc (.cells #[.int .i64 x1, .int .i64 x2] 25) = w' := by
  have h1 := ok_lit W [x1, x2] (by simp)
  rw [ho] at h1
  exact h1
theorem ok2a (W : World) (ob : Obj) (x1 x2 : Int) (o : Bool) (ho : [x1, x2].all (· == 0) = o) : Calls Tryd.prog 15 #[.slice (some ⟨W.heap.size + 1, 0, none⟩) 2 2] ((W.alloc ob).alloc (.cells #[.int .i64 x1, .int .i64 x2] 25)) fun e w' => e = .returned (.bool o) ∧ (W.alloc ob).alloc (.cells #[.int .i64 x1, .int .i64 x2] 25) = w' := by
  have h := ok2 (W.alloc ob) x1 x2 o ho
  rw [show (W.alloc ob).heap.size = W.heap.size + 1 by simp] at h
  exact h
theorem ok4a (W : World) (ob : Obj) (x1 x2 x3 x4 : Int) (o : Bool) (ho : [x1, x2, x3, x4].all (· == 0) = o) : Calls Tryd.prog 15 #[.slice (some ⟨W.heap.size + 1, 0, none⟩) 4 4] ((W.alloc ob).alloc (.cells #[.int .i64 x1, .int .i64 x2, .int .i64 x3, .int .i64 x4] 25)) fun e w' => e = .returned (.bool o) ∧ (W.alloc ob).alloc (.cells #[.int .i64 x1, .int .i64 x2, .int .i64 x3, .int .i64 x4] 25) = w' := by
  have h := ok4 (W.alloc ob) x1 x2 x3 x4 o ho
  rw [show (W.alloc ob).heap.size = W.heap.size + 1 by simp] at h
  exact h
theorem ok5a (W : World) (ob : Obj) (x1 x2 x3 x4 x5 : Int) (o : Bool) (ho : [x1, x2, x3, x4, x5].all (· == 0) = o) : Calls Tryd.prog 15 #[.slice (some ⟨W.heap.size + 1, 0, none⟩) 5 5] ((W.alloc ob).alloc (.cells #[.int .i64 x1, .int .i64 x2, .int .i64 x3, .int .i64 x4, .int .i64 x5] 25)) fun e w' => e = .returned (.bool o) ∧ (W.alloc ob).alloc (.cells #[.int .i64 x1, .int .i64 x2, .int .i64 x3, .int .i64 x4, .int .i64 x5] 25) = w' := by
  have h := ok5 (W.alloc ob) x1 x2 x3 x4 x5 o ho
  rw [show (W.alloc ob).heap.size = W.heap.size + 1 by simp] at h
  exact h
theorem all4 {x1 x2 x3 x4 : Int} (h : [x1, x2, x3, x4].all (· == 0) = true) : x1 = 0 ∧ x2 = 0 ∧ x3 = 0 ∧ x4 = 0 := by
  simpa [List.all_cons, Bool.and_eq_true] using h
theorem all5 {x1 x2 x3 x4 x5 : Int} (h : [x1, x2, x3, x4, x5].all (· == 0) = true) : x1 = 0 ∧ x2 = 0 ∧ x3 = 0 ∧ x4 = 0 ∧ x5 = 0 := by
  simpa [List.all_cons, Bool.and_eq_true] using h
theorem beq_iff {x y : Int} (h : x = 0 ↔ y = 0) : ∃ t, (x == 0) = t ∧ (y == 0) = t := by
  refine ⟨y == 0, ?_, rfl⟩
  by_cases hy : y = 0
  · simp [hy, h.2 hy]
  · have : x ≠ 0 := fun hx => hy (h.1 hx)
    rw [beq_eq_false_iff_ne.2 this, beq_eq_false_iff_ne.2 hy]
end DC
end Go.Proofs.YtpmjeipdldnnbaaDoor

/-
  DyadOrder: the walk.
-/
namespace Go.Proofs.YtpmjeipdldnnbaaDoor
set_option linter.unusedVariables false
set_option linter.unusedSimpArgs false
open Go.RowKit
set_option linter.unusedVariables false
namespace DC
open L NC NK
open Z (Nz Tz cmpv)
theorem cmpn_S {a b : Dy} (ha : Ok a) (hb : Ok b) : Cmpn a b = cmpv (S a) (S b) := by
  unfold Cmpn
  rw [if_neg (by rw [ha.1, hb.1]; decide)]
  have x1 := ha.2.2.2.2.1
  have x2 := hb.2.2.2.2.1
  have e1 := sc_lv2 a b (by omega)
  have e2 := sc_lv2 b a (by omega)
  rw [Int.min_comm b.x a.x] at e2
  unfold S
  rw [← e1, ← e2]
  rcases Int.lt_trichotomy (lv2 a b) (lv2 b a) with h | h | h
  · rw [Z.cmpv_lt h, Z.cmpv_lt (sc_lt.2 h)]
  · rw [Z.cmpv_eq h, Z.cmpv_eq (by rw [h])]
  · rw [Z.cmpv_gt h, Z.cmpv_gt (sc_lt.2 h)]
theorem cmpe_0 {a b : Dy} (ha : Ok a) (hb : Ok b) : Cmpe a b = 0 := by unfold Cmpe; rw [ha.1, hb.1]; rfl
theorem cmpv_3 (x y : Int) : (cmpv x y = -1 ∧ x < y) ∨ (cmpv x y = 0 ∧ x = y) ∨ (cmpv x y = 1 ∧ y < x) := by
  rcases Int.lt_trichotomy x y with h | h | h
  · exact .inl ⟨Z.cmpv_lt h, h⟩
  · exact .inr (.inl ⟨Z.cmpv_eq h, h⟩)
  · exact .inr (.inr ⟨Z.cmpv_gt h, h⟩)
/-- what the order is to say -/
structure Ord (v12 v21 v23 v13 : Int) (t : Bool) : Prop where
  w : IntKind.i64.wrap (-v21) = -v21
  a : (v12 != -v21) = false
  e : (v12 == 0) = t
  c : ¬ v12 ≤ 0 ∨ (v12 ≤ 0 ∧ ¬ v23 ≤ 0) ∨ (v12 ≤ 0 ∧ v23 ≤ 0 ∧ ¬ 0 < v13)
theorem ord_d {a b c : Dy} (ha : Ok a) (hb : Ok b) (hc : Ok c) : Ord (Cmpn a b) (Cmpn b a) (Cmpn b c) (Cmpn a c) (decide (a.m = b.m ∧ a.x = b.x)) := by
  rw [cmpn_S ha hb, cmpn_S hb ha, cmpn_S hb hc, cmpn_S ha hc]
  have he : (a.m = b.m ∧ a.x = b.x) ↔ S a = S b := by
    constructor
    · intro h; unfold S; rw [h.1, h.2]
    · intro h; rw [S_inj ha hb h]; exact ⟨rfl, rfl⟩
  have hd : decide (a.m = b.m ∧ a.x = b.x) = decide (S a = S b) := decide_eq_decide.2 he
  rw [hd]
  generalize S a = x
  generalize S b = y
  generalize S c = z
  have h1 := cmpv_3 x y
  have h2 := cmpv_3 y x
  have h3 := cmpv_3 y z
  have h4 := cmpv_3 x z
  refine ⟨IntWalk.i64_in _ (by omega), by rw [bne_eq_false_iff_eq]; omega, ?_, by omega⟩
  by_cases h : x = y
  · have : cmpv x y = 0 := by omega
    rw [this, decide_eq_true h]; rfl
  · have : cmpv x y ≠ 0 := by omega
    rw [decide_eq_false h, beq_eq_false_iff_ne.2 this]
theorem cmp_add {a b c : Dy} (ha : Ok a) (hb : Ok b) (hc : Ok c) (h1 : (Add a c).e = 0) (h2 : (Add b c).e = 0) : Cmpn (Add a c).d (Add b c).d = Cmpn a b := by
  rw [cmpn_S (add_good _ _) (add_good _ _), cmpn_S ha hb, (add_ok h1 (fun _ => ha) (fun _ => hc)).2.2, (add_ok h2 (fun _ => hb) (fun _ => hc)).2.2]
  have h1 := cmpv_3 (S a + S c) (S b + S c)
  have h2 := cmpv_3 (S a) (S b)
  omega
end DC
end Go.Proofs.YtpmjeipdldnnbaaDoor

/-
  RoundSame, RoundOrder: the walks.
-/
namespace Go.Proofs.YtpmjeipdldnnbaaDoor
set_option linter.unusedVariables false
set_option linter.unusedSimpArgs false
open Go.RowKit
set_option linter.unusedVariables false
set_option linter.unusedSimpArgs false
namespace RC
open L NC NK DC
open Z (Nz Tz cmpv)
end RC
end Go.Proofs.YtpmjeipdldnnbaaDoor

/-
  RoundOrder, RoundSides: the walks.
-/
namespace Go.Proofs.YtpmjeipdldnnbaaDoor
set_option linter.unusedVariables false
set_option linter.unusedSimpArgs false
open Go.RowKit
set_option linter.unusedVariables false
set_option linter.unusedSimpArgs false
namespace RC
open L NC NK DC
open Z (Nz Tz cmpv)
theorem all3 {x1 x2 x3 : Int} (h : [x1, x2, x3].all (· == 0) = true) : x1 = 0 ∧ x2 = 0 ∧ x3 = 0 := by
  simpa [List.all_cons, Bool.and_eq_true] using h
theorem Rank_w {y : Int} (h : 0 ≤ y ∧ y ≤ 18446744073709551615 ∧ F.nn y) (W : World) : Calls Tryd.prog 25 #[.int .u64 y] W fun e w' => e = .returned (.tuple #[.int .i64 (F.rnk y), .int .i64 0]) ∧ W = w' := FloatC.Rank_ok y h.1 h.2.1 h.2.2 W
end RC
end Go.Proofs.YtpmjeipdldnnbaaDoor

/-
  SumCommutes, SumSmall, SumOrder: the walks.
-/
namespace Go.Proofs.YtpmjeipdldnnbaaDoor
set_option linter.unusedVariables false
set_option linter.unusedSimpArgs false
open Go.RowKit
set_option linter.unusedVariables false
set_option linter.unusedSimpArgs false
namespace SC
open L NC NK DC RC
theorem turn3 {x y mode : Int} (hx : 0 ≤ x ∧ x ≤ 18446744073709551615) (hy : 0 ≤ y ∧ y ≤ 18446744073709551615) (hm : 0 ≤ mode ∧ mode ≤ 4) :
    (F.cls (AT [x, F.neg y] mode).1 = 5 ∧ F.cls (AT [y, F.neg x] (tm mode)).1 = 5) ∨ (F.cls (AT [x, F.neg y] mode).1 = 1 ∧ F.cls (AT [y, F.neg x] (tm mode)).1 = 1) ∨ (F.cls (AT [y, F.neg x] (tm mode)).1 = F.cls (AT [x, F.neg y] mode).1 ∧ F.cls (AT [x, F.neg y] mode).1 ≠ 5 ∧ F.cls (AT [x, F.neg y] mode).1 ≠ 1 ∧ (AT [y, F.neg x] (tm mode)).1 = F.neg (AT [x, F.neg y] mode).1) := by
  rcases sub_turn hx hy hm with h | h | h
  · exact .inl h
  · exact .inr (.inl h)
  · by_cases h5 : F.cls (AT [x, F.neg y] mode).1 = 5
    · left; exact ⟨h5, by rw [h, F.cls_neg]; exact h5⟩
    · by_cases h1 : F.cls (AT [x, F.neg y] mode).1 = 1
      · right; left; exact ⟨h1, by rw [h, F.cls_neg]; exact h1⟩
      · right; right; exact ⟨by rw [h, F.cls_neg], h5, h1, h⟩
theorem AT_ok {L : List Int} {mode : Int} (hm : 0 ≤ mode ∧ mode ≤ 4) (hl : ¬ 200 < L.length) (hu : u64s L) : ∃ a b, AT L mode = (a, b, 0) := by
  have h := (AT_e hl hu).2 hm
  exact ⟨(AT L mode).1, (AT L mode).2.1, by rw [← h]⟩
theorem other_tm {mode : Int} (hm : 0 ≤ mode ∧ mode ≤ 4) : (mode = 1 ∧ tm mode = 2) ∨ (mode = 2 ∧ tm mode = 1) ∨ ((mode == 1) = false ∧ (mode == 2) = false ∧ tm mode = mode) := by
  by_cases h1 : mode = 1
  · subst h1; exact .inl ⟨rfl, rfl⟩
  · by_cases h2 : mode = 2
    · subst h2; exact .inr (.inl ⟨rfl, rfl⟩)
    · right; right
      refine ⟨by simp [h1], by simp [h2], ?_⟩
      unfold tm; rw [if_neg h1, if_neg h2]
end SC
end Go.Proofs.YtpmjeipdldnnbaaDoor

/-
  SumOrder: the walk.
-/
namespace Go.Proofs.YtpmjeipdldnnbaaDoor
set_option linter.unusedVariables false
set_option linter.unusedSimpArgs false
open Go.RowKit
set_option linter.unusedVariables false
set_option linter.unusedSimpArgs false
namespace SC
open L NC NK DC RC
/-- Rank of whatever number -/
theorem Rank_g {x : Int} (hx : 0 ≤ x ∧ x ≤ 18446744073709551615) : ∃ k e : Int, (∀ W : World, Calls Tryd.prog 25 #[.int .u64 x] W fun e' w' => e' = .returned (.tuple #[.int .i64 k, .int .i64 e]) ∧ W = w') ∧ (e = 0 → F.nn x ∧ k = F.rnk x) := by
  by_cases h : F.nn x
  · exact ⟨F.rnk x, 0, fun W => FloatC.Rank_ok x hx.1 hx.2 h W, fun _ => ⟨h, rfl⟩⟩
  · exact ⟨0, 4, fun W => FloatC.Rank_no x hx.1 hx.2 (by unfold F.nn at h; omega) W, fun h => by cases h⟩
theorem all4o {x1 x2 x3 x4 : Int} (h : [x1, x2, x3, x4].all (· == 0) = true) : x1 = 0 ∧ x2 = 0 ∧ x3 = 0 ∧ x4 = 0 := by
  simpa [List.all_cons, Bool.and_eq_true] using h
theorem all2o {x1 x2 : Int} (h : [x1, x2].all (· == 0) = true) : x1 = 0 ∧ x2 = 0 := by
  simpa [List.all_cons, Bool.and_eq_true] using h
end SC
end Go.Proofs.YtpmjeipdldnnbaaDoor

/-
  ProdCommutes, ProdOrder: the walks.
-/
namespace Go.Proofs.YtpmjeipdldnnbaaDoor
set_option linter.unusedVariables false
set_option linter.unusedSimpArgs false
open Go.RowKit
set_option linter.unusedVariables false
set_option linter.unusedSimpArgs false
namespace PC
open L NC NK DC RC SC
theorem okn (W : World) (L : List Int) (o : Bool) (h0 : L.length < 1000) (ho : L.all (· == 0) = o) : Calls Tryd.prog 15 #[.slice (some ⟨W.heap.size, 0, none⟩) L.length L.length] (W.alloc (.cells (L.map fun x => Value.int .i64 x).toArray 25)) fun e w' => e = .returned (.bool o) ∧ W.alloc (.cells (L.map fun x => Value.int .i64 x).toArray 25) = w' := by
  have h1 := ok_lit W L (by omega)
  rw [ho] at h1
  exact h1
end PC
end Go.Proofs.YtpmjeipdldnnbaaDoor

/-
  SumSterbenz: value; four boxed Dyads.
-/
namespace Go.Proofs.YtpmjeipdldnnbaaDoor
set_option linter.unusedVariables false
set_option linter.unusedSimpArgs false
open Go.RowKit
set_option linter.unusedVariables false
set_option linter.unusedSimpArgs false
namespace SC
open L NC NK DC RC
/-- value: a Dyad in its form, and if there is one -/
def RetVb (w : World) (d : Dy) (o : Bool) (e : Ending) (w' : World) : Prop := ∃ b A n c x, e = .returned (.tuple #[.agg #[.bool b, .slice A n c, .int .i64 x], .bool o]) ∧ GV w' b A n c x d ∧ Below w.heap.size w w'
theorem value_c (x : Int) (w : World) (h0 : 0 ≤ x) (h1 : x ≤ 18446744073709551615) (hT : TabD w) : Calls Tryd.prog 16 #[.int .u64 x] w (RetVb w (OfD x).d ((OfD x).e == 0)) := by
  obtain ⟨W0, hW0, D0, ZS, KB⟩ := res0 w
  have OF := Lib.hid (Of_d x h0 h1 W0 (hT.below D0))
  have KB := Lib.hid KB
  have D0 := Lib.hid D0
  have HW0 := Lib.hid hW0
  generalize OfD x = r at *
  clear hW0 h0 h1 hT
  go_enter Tryd.func16, Tryd.ntmps16
  go_wp2_with (first
    | (go_at_call 28; rw [HW0.out]; (with_reducible refine (OF.out).mono ?_); rintro e w5 ⟨b5, A5, n5, c5, x5, rfl, hv5, hb0⟩; have s := hb0.alloc hb0.size (.cells #[.bool b5, .slice A5 n5 c5, .int .i64 x5] 35); have D := Lib.hid s; obtain ⟨p0, p1, p2⟩ := BX.new w5 b5 A5 n5 c5 x5; have hv6 := hv5.below (al1 w5 (.cells #[.bool b5, .slice A5 n5 c5, .int .i64 x5] 35)); have R2 := KB.out _ D.out; have t0 := R2.at_ 0 rfl; have t1 := R2.at_ 1 rfl; have t2 := R2.at_ 2 rfl; have f0 := R2.frozen 0; have f1 := R2.frozen 1; have f2 := R2.frozen 2; have R2 := Lib.hid R2))
  exact bodyPost_ret (v := .tuple #[.agg #[.bool b5, .slice A5 n5 c5, .int .i64 x5], .bool (r.e == 0)]) (by simp [results, Tryd.results16, go_sem, t0, t1, t2]) rfl
    ⟨_, _, _, _, _, rfl, hv6.set3 R2.out _ _ _ (by intro z h; cases h) (by intro z h; cases h), below3 (D0.out.trans (D.out.mono D0.out.size)) (by omega) _ _ _⟩
def dc (b : Bool) (A : Option Addr) (n c : Nat) (x : Int) : Array Value := #[.bool b, .slice A n c, .int .i64 x]
/-- four boxes -/
structure Four (W0 W : World) (ga gb gp gq : Nat) (ba : Bool) (Aa : Option Addr) (na ca : Nat) (xa : Int) (bb : Bool) (Ab : Option Addr) (nb cb : Nat) (xb : Int) (bp : Bool) (Ap : Option Addr) (np cp : Nat) (xp : Int) (bq : Bool) (Aq : Option Addr) (nq cq : Nat) (xq : Int) (da db dp dq : Dy) : Prop where
  ka : Blk W ga 35 #[.bool ba, .slice Aa na ca, .int .i64 xa]
  kb : Blk W gb 35 #[.bool bb, .slice Ab nb cb, .int .i64 xb]
  kp : Blk W gp 35 #[.bool bp, .slice Ap np cp, .int .i64 xp]
  kq : Blk W gq 35 #[.bool bq, .slice Aq nq cq, .int .i64 xq]
  va : GV W ba Aa na ca xa da
  vb : GV W bb Ab nb cb xb db
  vp : GV W bp Ap np cp xp dp
  vq : GV W bq Aq nq cq xq dq
  D : Below W0.heap.size W0 W
  hp : W0.heap.size ≤ gp
  hq : W0.heap.size ≤ gq
  ap : ga ≠ gp
  aq : ga ≠ gq
  bp' : gb ≠ gp
  bq' : gb ≠ gq
  pq : gp ≠ gq
theorem Four.below {W0 W W' : World} {ga gb gp gq : Nat} {ba : Bool} {Aa : Option Addr} {na ca : Nat} {xa : Int} {bb : Bool} {Ab : Option Addr} {nb cb : Nat} {xb : Int} {bp : Bool} {Ap : Option Addr} {np cp : Nat} {xp : Int} {bq : Bool} {Aq : Option Addr} {nq cq : Nat} {xq : Int} {da db dp dq : Dy} (h : Four W0 W ga gb gp gq ba Aa na ca xa bb Ab nb cb xb bp Ap np cp xp bq Aq nq cq xq  da db dp dq) (hb : Below W.heap.size W W') : Four W0 W' ga gb gp gq ba Aa na ca xa bb Ab nb cb xb bp Ap np cp xp bq Aq nq cq xq  da db dp dq :=
  ⟨h.ka.below hb h.ka.lt, h.kb.below hb h.kb.lt, h.kp.below hb h.kp.lt, h.kq.below hb h.kq.lt, h.va.below hb, h.vb.below hb, h.vp.below hb, h.vq.below hb, h.D.trans (hb.mono h.D.size), h.hp, h.hq, h.ap, h.aq, h.bp', h.bq', h.pq⟩
theorem Blk.far3 {w : World} {g g' : Nat} {t : TypeId} {cs : Array Value} (h : Blk w g t cs) (hg : g ≠ g') (x y z : Value) : Blk (((w.setCell ⟨g', 0, none⟩ x).setCell ⟨g', 1, none⟩ y).setCell ⟨g', 2, none⟩ z) g t cs :=
  ((h.far (by simpa using hg) _).far (by simpa using hg) _).far (by simpa using hg) _
/-- both last ones exchanged -/
theorem Four.swap {W0 W : World} {ga gb gp gq : Nat} {ba : Bool} {Aa : Option Addr} {na ca : Nat} {xa : Int} {bb : Bool} {Ab : Option Addr} {nb cb : Nat} {xb : Int} {bp : Bool} {Ap : Option Addr} {np cp : Nat} {xp : Int} {bq : Bool} {Aq : Option Addr} {nq cq : Nat} {xq : Int} {da db dp dq : Dy} (h : Four W0 W ga gb gp gq ba Aa na ca xa bb Ab nb cb xb bp Ap np cp xp bq Aq nq cq xq  da db dp dq) :
    Four W0 ((((((W.setCell ⟨gp, 0, none⟩ (.bool bq)).setCell ⟨gp, 1, none⟩ (.slice Aq nq cq)).setCell ⟨gp, 2, none⟩ (.int .i64 xq)).setCell ⟨gq, 0, none⟩ (.bool bp)).setCell ⟨gq, 1, none⟩ (.slice Ap np cp)).setCell ⟨gq, 2, none⟩ (.int .i64 xp)) ga gb gp gq ba Aa na ca xa bb Ab nb cb xb bq Aq nq cq xq bp Ap np cp xp  da db dq dp := by
  have kq1 := Blk.far3 h.kq h.pq.symm (.bool bq) (.slice Aq nq cq) (.int .i64 xq)
  have set1 : ∀ {b A n c x d}, GV W b A n c x d → GV (((W.setCell ⟨gp, 0, none⟩ (.bool bq)).setCell ⟨gp, 1, none⟩ (.slice Aq nq cq)).setCell ⟨gp, 2, none⟩ (.int .i64 xq)) b A n c x d := fun g => g.set3 h.kp _ _ _ (by intro z h; cases h) (by intro z h; cases h)
  have set2 : ∀ {b A n c x d}, GV W b A n c x d → GV ((((((W.setCell ⟨gp, 0, none⟩ (.bool bq)).setCell ⟨gp, 1, none⟩ (.slice Aq nq cq)).setCell ⟨gp, 2, none⟩ (.int .i64 xq)).setCell ⟨gq, 0, none⟩ (.bool bp)).setCell ⟨gq, 1, none⟩ (.slice Ap np cp)).setCell ⟨gq, 2, none⟩ (.int .i64 xp)) b A n c x d := fun g => (set1 g).set3 kq1 _ _ _ (by intro z h; cases h) (by intro z h; cases h)
  exact ⟨Blk.far3 (Blk.far3 h.ka h.ap _ _ _) h.aq _ _ _, Blk.far3 (Blk.far3 h.kb h.bp' _ _ _) h.bq' _ _ _, Blk.far3 (Blk3 h.kp _ _ _) h.pq _ _ _, Blk3 kq1 _ _ _,
    set2 h.va, set2 h.vb, set2 h.vq, set2 h.vp, below3 (below3 h.D h.hp _ _ _) h.hq _ _ _, h.hp, h.hq, h.ap, h.aq, h.bp', h.bq', h.pq⟩
end SC
end Go.Proofs.YtpmjeipdldnnbaaDoor

