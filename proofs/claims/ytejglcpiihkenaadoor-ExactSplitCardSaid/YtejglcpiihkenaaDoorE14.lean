/-
  Texts glued together for a claim: UK1 UK2 UK3 UK4 RK6.
-/
import Derived.Test.YtejglcpiihkenaaDoorE8
import Derived.Test.YtejglcpiihkenaaDoorE11
/-
  SumCommutes, SumSmall, SumOrder: the walks.
-/
namespace Go.Proofs.YtejglcpiihkenaaDoor
set_option linter.unusedVariables false
set_option linter.unusedSimpArgs false
open Go.RowKit
set_option linter.unusedVariables false
set_option linter.unusedSimpArgs false
namespace SC
open L NC NK DC RC
theorem turn3 {x y mode : Int} (hx : 0 ≤ x ∧ x ≤ 18446744073709551615) (hy : 0 ≤ y ∧ y ≤ 18446744073709551615) (hm : 0 ≤ mode ∧ mode ≤ 4) :
    (F.cls (AT [x, F.neg y] mode).1 = 5 ∧ F.cls (AT [y, F.neg x] (tm mode)).1 = 5) ∨ (F.cls (AT [x, F.neg y] mode).1 = 1 ∧ F.cls (AT [y, F.neg x] (tm mode)).1 = 1) ∨ (F.cls (AT [y, F.neg x] (tm mode)).1 = F.cls (AT [x, F.neg y] mode).1 ∧ F.cls (AT [x, F.neg y] mode).1 ≠ 5 ∧ F.cls (AT [x, F.neg y] mode).1 ≠ 1 ∧ (AT [y, F.neg x] (tm mode)).1 = F.neg (AT [x, F.neg y] mode).1) := by
  rcases sub_turn hx hy hm with h | h | h
  · exact .inl h
  · exact .inr (.inl h)
  · by_cases h5 : F.cls (AT [x, F.neg y] mode).1 = 5
    · left; exact ⟨h5, by rw [h, F.cls_neg]; exact h5⟩
    · by_cases h1 : F.cls (AT [x, F.neg y] mode).1 = 1
      · right; left; exact ⟨h1, by rw [h, F.cls_neg]; exact h1⟩
      · right; right; exact ⟨by rw [h, F.cls_neg], h5, h1, h⟩
theorem AT_ok {L : List Int} {mode : Int} (hm : 0 ≤ mode ∧ mode ≤ 4) (hl : ¬ 200 < L.length) (hu : u64s L) : ∃ a b, AT L mode = (a, b, 0) := by
  have h := (AT_e hl hu).2 hm
  exact ⟨(AT L mode).1, (AT L mode).2.1, by rw [← h]⟩
theorem other_tm {mode : Int} (hm : 0 ≤ mode ∧ mode ≤ 4) : (mode = 1 ∧ tm mode = 2) ∨ (mode = 2 ∧ tm mode = 1) ∨ ((mode == 1) = false ∧ (mode == 2) = false ∧ tm mode = mode) := by
  by_cases h1 : mode = 1
  · subst h1; exact .inl ⟨rfl, rfl⟩
  · by_cases h2 : mode = 2
    · subst h2; exact .inr (.inl ⟨rfl, rfl⟩)
    · right; right
      refine ⟨by simp [h1], by simp [h2], ?_⟩
      unfold tm; rw [if_neg h1, if_neg h2]
end SC
end Go.Proofs.YtejglcpiihkenaaDoor

/-
  SumOrder: the walk.
-/
namespace Go.Proofs.YtejglcpiihkenaaDoor
set_option linter.unusedVariables false
set_option linter.unusedSimpArgs false
open Go.RowKit
set_option linter.unusedVariables false
set_option linter.unusedSimpArgs false
namespace SC
open L NC NK DC RC
theorem all4o {x1 x2 x3 x4 : Int} (h : [x1, x2, x3, x4].all (· == 0) = true) : x1 = 0 ∧ x2 = 0 ∧ x3 = 0 ∧ x4 = 0 := by
  simpa [List.all_cons, Bool.and_eq_true] using h
theorem all2o {x1 x2 : Int} (h : [x1, x2].all (· == 0) = true) : x1 = 0 ∧ x2 = 0 := by
  simpa [List.all_cons, Bool.and_eq_true] using h
end SC
end Go.Proofs.YtejglcpiihkenaaDoor

/-
  SumSterbenz: value; four boxed Dyads.
-/
namespace Go.Proofs.YtejglcpiihkenaaDoor
set_option linter.unusedVariables false
set_option linter.unusedSimpArgs false
open Go.RowKit
set_option linter.unusedVariables false
set_option linter.unusedSimpArgs false
namespace SC
open L NC NK DC RC
/-- value: a Dyad in its form, and if there is one -/
def RetVb (w : World) (d : Dy) (o : Bool) (e : Ending) (w' : World) : Prop := ∃ b A n c x, e = .returned (.tuple #[.agg #[.bool b, .slice A n c, .int .i64 x], .bool o]) ∧ GV w' b A n c x d ∧ Below w.heap.size w w'
theorem value_c (x : Int) (w : World) (h0 : 0 ≤ x) (h1 : x ≤ 18446744073709551615) (hT : TabD w) : Calls Tryd.prog 9 #[.int .u64 x] w (RetVb w (OfD x).d ((OfD x).e == 0)) := by
  obtain ⟨W0, hW0, D0, ZS, KB⟩ := res0 w
  have OF := Lib.hid (Of_d x h0 h1 W0 (hT.below D0))
  have KB := Lib.hid KB
  have D0 := Lib.hid D0
  have HW0 := Lib.hid hW0
  generalize OfD x = r at *
  clear hW0 h0 h1 hT
  go_enter Tryd.func9, Tryd.ntmps9
  go_wp2_with (first
    | (go_at_call 27; rw [HW0.out]; (with_reducible refine (OF.out).mono ?_); rintro e w5 ⟨b5, A5, n5, c5, x5, rfl, hv5, hb0⟩; have s := hb0.alloc hb0.size (.cells #[.bool b5, .slice A5 n5 c5, .int .i64 x5] 28); have D := Lib.hid s; obtain ⟨p0, p1, p2⟩ := BX.new w5 b5 A5 n5 c5 x5; have hv6 := hv5.below (al1 w5 (.cells #[.bool b5, .slice A5 n5 c5, .int .i64 x5] 28)); have R2 := KB.out _ D.out; have t0 := R2.at_ 0 rfl; have t1 := R2.at_ 1 rfl; have t2 := R2.at_ 2 rfl; have f0 := R2.frozen 0; have f1 := R2.frozen 1; have f2 := R2.frozen 2; have R2 := Lib.hid R2))
  exact bodyPost_ret (v := .tuple #[.agg #[.bool b5, .slice A5 n5 c5, .int .i64 x5], .bool (r.e == 0)]) (by simp [results, Tryd.results9, go_sem, t0, t1, t2]) rfl
    ⟨_, _, _, _, _, rfl, hv6.set3 R2.out _ _ _ (by intro z h; cases h) (by intro z h; cases h), below3 (D0.out.trans (D.out.mono D0.out.size)) (by omega) _ _ _⟩
def dc (b : Bool) (A : Option Addr) (n c : Nat) (x : Int) : Array Value := #[.bool b, .slice A n c, .int .i64 x]
/-- four boxes -/
structure Four (W0 W : World) (ga gb gp gq : Nat) (ba : Bool) (Aa : Option Addr) (na ca : Nat) (xa : Int) (bb : Bool) (Ab : Option Addr) (nb cb : Nat) (xb : Int) (bp : Bool) (Ap : Option Addr) (np cp : Nat) (xp : Int) (bq : Bool) (Aq : Option Addr) (nq cq : Nat) (xq : Int) (da db dp dq : Dy) : Prop where
  ka : Blk W ga 28 #[.bool ba, .slice Aa na ca, .int .i64 xa]
  kb : Blk W gb 28 #[.bool bb, .slice Ab nb cb, .int .i64 xb]
  kp : Blk W gp 28 #[.bool bp, .slice Ap np cp, .int .i64 xp]
  kq : Blk W gq 28 #[.bool bq, .slice Aq nq cq, .int .i64 xq]
  va : GV W ba Aa na ca xa da
  vb : GV W bb Ab nb cb xb db
  vp : GV W bp Ap np cp xp dp
  vq : GV W bq Aq nq cq xq dq
  D : Below W0.heap.size W0 W
  hp : W0.heap.size ≤ gp
  hq : W0.heap.size ≤ gq
  ap : ga ≠ gp
  aq : ga ≠ gq
  bp' : gb ≠ gp
  bq' : gb ≠ gq
  pq : gp ≠ gq
theorem Four.below {W0 W W' : World} {ga gb gp gq : Nat} {ba : Bool} {Aa : Option Addr} {na ca : Nat} {xa : Int} {bb : Bool} {Ab : Option Addr} {nb cb : Nat} {xb : Int} {bp : Bool} {Ap : Option Addr} {np cp : Nat} {xp : Int} {bq : Bool} {Aq : Option Addr} {nq cq : Nat} {xq : Int} {da db dp dq : Dy} (h : Four W0 W ga gb gp gq ba Aa na ca xa bb Ab nb cb xb bp Ap np cp xp bq Aq nq cq xq  da db dp dq) (hb : Below W.heap.size W W') : Four W0 W' ga gb gp gq ba Aa na ca xa bb Ab nb cb xb bp Ap np cp xp bq Aq nq cq xq  da db dp dq :=
  ⟨h.ka.below hb h.ka.lt, h.kb.below hb h.kb.lt, h.kp.below hb h.kp.lt, h.kq.below hb h.kq.lt, h.va.below hb, h.vb.below hb, h.vp.below hb, h.vq.below hb, h.D.trans (hb.mono h.D.size), h.hp, h.hq, h.ap, h.aq, h.bp', h.bq', h.pq⟩
theorem Blk.far3 {w : World} {g g' : Nat} {t : TypeId} {cs : Array Value} (h : Blk w g t cs) (hg : g ≠ g') (x y z : Value) : Blk (((w.setCell ⟨g', 0, none⟩ x).setCell ⟨g', 1, none⟩ y).setCell ⟨g', 2, none⟩ z) g t cs :=
  ((h.far (by simpa using hg) _).far (by simpa using hg) _).far (by simpa using hg) _
/-- both last ones exchanged -/
theorem Four.swap {W0 W : World} {ga gb gp gq : Nat} {ba : Bool} {Aa : Option Addr} {na ca : Nat} {xa : Int} {bb : Bool} {Ab : Option Addr} {nb cb : Nat} {xb : Int} {bp : Bool} {Ap : Option Addr} {np cp : Nat} {xp : Int} {bq : Bool} {Aq : Option Addr} {nq cq : Nat} {xq : Int} {da db dp dq : Dy} (h : Four W0 W ga gb gp gq ba Aa na ca xa bb Ab nb cb xb bp Ap np cp xp bq Aq nq cq xq  da db dp dq) :
    Four W0 ((((((W.setCell ⟨gp, 0, none⟩ (.bool bq)).setCell ⟨gp, 1, none⟩ (.slice Aq nq cq)).setCell ⟨gp, 2, none⟩ (.int .i64 xq)).setCell ⟨gq, 0, none⟩ (.bool bp)).setCell ⟨gq, 1, none⟩ (.slice Ap np cp)).setCell ⟨gq, 2, none⟩ (.int .i64 xp)) ga gb gp gq ba Aa na ca xa bb Ab nb cb xb bq Aq nq cq xq bp Ap np cp xp  da db dq dp := by
  have kq1 := Blk.far3 h.kq h.pq.symm (.bool bq) (.slice Aq nq cq) (.int .i64 xq)
  have set1 : ∀ {b A n c x d}, GV W b A n c x d → GV (((W.setCell ⟨gp, 0, none⟩ (.bool bq)).setCell ⟨gp, 1, none⟩ (.slice Aq nq cq)).setCell ⟨gp, 2, none⟩ (.int .i64 xq)) b A n c x d := fun g => g.set3 h.kp _ _ _ (by intro z h; cases h) (by intro z h; cases h)
  have set2 : ∀ {b A n c x d}, GV W b A n c x d → GV ((((((W.setCell ⟨gp, 0, none⟩ (.bool bq)).setCell ⟨gp, 1, none⟩ (.slice Aq nq cq)).setCell ⟨gp, 2, none⟩ (.int .i64 xq)).setCell ⟨gq, 0, none⟩ (.bool bp)).setCell ⟨gq, 1, none⟩ (.slice Ap np cp)).setCell ⟨gq, 2, none⟩ (.int .i64 xp)) b A n c x d := fun g => (set1 g).set3 kq1 _ _ _ (by intro z h; cases h) (by intro z h; cases h)
  exact ⟨Blk.far3 (Blk.far3 h.ka h.ap _ _ _) h.aq _ _ _, Blk.far3 (Blk.far3 h.kb h.bp' _ _ _) h.bq' _ _ _, Blk.far3 (Blk3 h.kp _ _ _) h.pq _ _ _, Blk3 kq1 _ _ _,
    set2 h.va, set2 h.vb, set2 h.vq, set2 h.vp, below3 (below3 h.D h.hp _ _ _) h.hq _ _ _, h.hp, h.hq, h.ap, h.aq, h.bp', h.bq', h.pq⟩
end SC
end Go.Proofs.YtejglcpiihkenaaDoor

/-
  SumSterbenz: the walk.
-/
namespace Go.Proofs.YtejglcpiihkenaaDoor
set_option linter.unusedVariables false
set_option linter.unusedSimpArgs false
open Go.RowKit
set_option linter.unusedVariables false
set_option linter.unusedSimpArgs false
namespace SC
open L NC NK DC RC
theorem shf_1 {b : Dy} (hb : Ok b) (h : (Shf b 1).e = 0) : S (Shf b 1).d = 2 * S b := by
  have hx := hb.2.2.2.2.1
  unfold Shf at h ⊢
  rw [if_neg (by simpa using hb.1), if_neg (by omega)] at h ⊢
  unfold S
  rw [fin_sc (by omega) h]
  have := sc_shift b.m b.x 1 (by omega)
  rw [show b.x + ((1 : Nat) : Int) = b.x + 1 by omega] at this
  rw [← this, sc_mul1, sc_mul1 b.m, show b.m * 2 ^ 1 = 2 * b.m by omega, Int.mul_assoc]
theorem shf_2 {b : Dy} (hb : Ok b) (h : (Shf b (-1)).e = 0) : 2 * S (Shf b (-1)).d = S b := by
  have hx := hb.2.2.2.2.1
  unfold Shf at h ⊢
  rw [if_neg (by simpa using hb.1), if_neg (by omega)] at h ⊢
  unfold S
  rw [fin_sc (by omega) h]
  have := sc_shift b.m (b.x + -1) 1 (by omega)
  rw [show b.x + -1 + ((1 : Nat) : Int) = b.x by omega] at this
  rw [← this, sc_mul1, sc_mul1 (b.m * 2 ^ 1), show b.m * 2 ^ 1 = 2 * b.m by omega, Int.mul_assoc]
theorem cmp_le {a b : Dy} (ha : Ok a) (hb : Ok b) (h : ¬ Cmpn a b > 0) : S a ≤ S b := by
  rw [cmpn_S ha hb] at h
  rcases cmpv_3 (S a) (S b) with ⟨e, k⟩ | ⟨e, k⟩ | ⟨e, k⟩ <;> rw [e] at h <;> omega
theorem fit_neg {d : Dy} {k : Int} (h : Fit d k) : Fit (neg d) k := by
  refine ⟨⟨h.ok.1, ?_, ?_⟩, h.x, by rw [S_neg]; have := h.lo; omega, by rw [S_neg]; have := h.hi; omega⟩
  · have := h.ok.2.1
    unfold can at *
    show (-d.m = 0 ∧ d.x = 0) ∨ -d.m % 2 = 1
    omega
  · have := h.ok.2.2
    unfold inb at *
    show -d.m < _ ∧ _ < -d.m ∧ -10000 ≤ d.x ∧ d.x ≤ 10000
    generalize (4294967296 : Int) ^ 400 = c400 at *
    omega
theorem sub_fit {a b : Dy} {j k : Int} (ha : Fit a j) (hb : Fit b k) (hk : j + k ≤ 256) : (Sub a b).e = 0 ∧ Ok (Sub a b).d ∧ S (Sub a b).d = S a - S b := by
  have h := add_fit ha (fit_neg hb) hk
  have e : Sub a b = DC.Add a (neg b) := rfl
  rw [e]
  exact ⟨h.1, h.2.1.ok, by rw [h.2.2, S_neg]; omega⟩
theorem OfD_e {x : Int} (h : (OfD x).e = 0) : F.exq x ≠ 2047 := fun h2 => by
  unfold OfD at h; rw [if_pos h2] at h; cases h
theorem ster_end {x y mode : Int} (hm : 0 ≤ mode ∧ mode ≤ 4) (hx : fi x) (hy : fi y) (o : Bool) (h1 : (Shf (OfD y).d 1).e = 0) (h2 : (Shf (OfD y).d (-1)).e = 0) (hn : ng (OfD y).d = o)
    (c1 : ¬ Cmpn (if o = true then (Shf (OfD y).d 1).d else (Shf (OfD y).d (-1)).d) (OfD x).d > 0) (c2 : ¬ Cmpn (OfD x).d (if o = true then (Shf (OfD y).d (-1)).d else (Shf (OfD y).d 1).d) > 0) :
    ∃ s, AT [x, F.neg y] mode = (s, false, 0) ∧ fi s ∧ (OfD s).e = 0 ∧ (OfD s).d = (Sub (OfD x).d (OfD y).d).d ∧ Ok (OfD s).d ∧ (Sub (OfD x).d (OfD y).d).e = 0 := by
  have fx := of_fit hx
  have fy := of_fit hy
  have s1 := shf_1 fy.2.ok h1
  have s2 := shf_2 fy.2.ok h2
  have g1 := shf_good (OfD y).d 1
  have g2 := shf_good (OfD y).d (-1)
  have ab := A_abs (OfD y).d
  have cond : (0 ≤ val y ∧ val y ≤ 2 * val x ∧ val x ≤ 2 * val y) ∨ (val y ≤ 0 ∧ 2 * val y ≤ val x ∧ 2 * val x ≤ val y) := by
    unfold val
    cases o
    · left
      simp only [Bool.false_eq_true, if_false] at c1 c2
      have k1 := cmp_le g2 fx.2.ok c1
      have k2 := cmp_le fx.2.ok g1 c2
      have k3 : 0 ≤ S (OfD y).d := by
        rcases Int.lt_or_le (S (OfD y).d) 0 with h | h
        · have := (ab.2 h).2; rw [hn] at this; cases this
        · exact h
      exact ⟨k3, by omega, by omega⟩
    · right
      simp only [if_true] at c1 c2
      have k1 := cmp_le g1 fx.2.ok c1
      have k2 := cmp_le fx.2.ok g2 c2
      have k3 : S (OfD y).d ≤ 0 := by
        rcases Int.lt_or_le 0 (S (OfD y).d) with h | h
        · have := (ab.1 (by omega)).2; rw [hn] at this; cases this
        · exact h
      exact ⟨k3, by omega, by omega⟩
  obtain ⟨e1, e2, e3, e4⟩ := ster_p hm hx hy cond
  have fs := of_fit e2
  obtain ⟨q1, q2, q3⟩ := sub_fit fx.2 fy.2 (by omega)
  refine ⟨(AT [x, F.neg y] mode).1, by rw [← e1, ← e4], e2, fs.1, ?_, fs.2.ok, q1⟩
  exact S_inj fs.2.ok q2 (by rw [q3]; exact e3)
end SC
end Go.Proofs.YtejglcpiihkenaaDoor

/-
  RoundNear: the walk.
-/
namespace Go.Proofs.YtejglcpiihkenaaDoor
set_option linter.unusedVariables false
set_option linter.unusedSimpArgs false
open Go.RowKit
set_option linter.unusedVariables false
set_option linter.unusedSimpArgs false
namespace RC
open L NC NK DC
open Z (Nz Tz cmpv)
theorem two_set {W0 W : World} {gp gq : Nat} {bp bq : Bool} {Ap Aq : Option Addr} {np cp nq cq : Nat} {xp xq : Int} {dp dq : Dy} (hne : gp ≠ gq) (Xp : BX W gp bp Ap np cp xp) (Xq : BX W gq bq Aq nq cq xq) (Gp : GV W bp Ap np cp xp dp) (Gq : GV W bq Aq nq cq xq dq)
    (D : Below W0.heap.size W0 W) (hp : W0.heap.size ≤ gp) (hq : W0.heap.size ≤ gq) :
    BX ((W.setCell ⟨gp, 0, none⟩ (.bool false)).setCell ⟨gq, 0, none⟩ (.bool false)) gp false Ap np cp xp ∧ BX ((W.setCell ⟨gp, 0, none⟩ (.bool false)).setCell ⟨gq, 0, none⟩ (.bool false)) gq false Aq nq cq xq ∧
    DV ((W.setCell ⟨gp, 0, none⟩ (.bool false)).setCell ⟨gq, 0, none⟩ (.bool false)) (.agg #[.bool false, .slice Ap np cp, .int .i64 xp]) (ab dp) ∧ DV ((W.setCell ⟨gp, 0, none⟩ (.bool false)).setCell ⟨gq, 0, none⟩ (.bool false)) (.agg #[.bool false, .slice Aq nq cq, .int .i64 xq]) (ab dq) ∧
    Below W0.heap.size W0 ((W.setCell ⟨gp, 0, none⟩ (.bool false)).setCell ⟨gq, 0, none⟩ (.bool false)) := by
  obtain ⟨p0, p1, p2⟩ := Xp
  obtain ⟨q0, q1, q2⟩ := Xq
  have q0' : (W.setCell ⟨gp, 0, none⟩ (.bool false)).cell? ⟨gq, 0, none⟩ = some (.bool bq) := by rw [World.cell?_setCell_other _ _ _ _ (by intro h; have h9 := congrArg Addr.block h; simp only at h9; omega)]; exact q0
  have gset : ∀ {b A n c x d}, GV W b A n c x d → GV ((W.setCell ⟨gp, 0, none⟩ (.bool false)).setCell ⟨gq, 0, none⟩ (.bool false)) b A n c x d := fun h =>
    ⟨nv_set (nv_set h.1 p0 (fun z h => by cases h) _) q0' (fun z h => by cases h) _, h.2⟩
  refine ⟨⟨?_, ?_, ?_⟩, ⟨?_, ?_, ?_⟩, (gv_ab (gset Gp)).dv, (gv_ab (gset Gq)).dv, (D.setCell hp _).setCell hq _⟩
  · rw [World.cell?_setCell_other _ _ _ _ (by intro h; have h9 := congrArg Addr.block h; simp only at h9; omega)]; exact World.cell?_setCell_same' _ _ _ (by rw [p0]; rfl)
  · rw [World.cell?_setCell_other _ _ _ _ (by simp), World.cell?_setCell_other _ _ _ _ (by simp)]; exact p1
  · rw [World.cell?_setCell_other _ _ _ _ (by simp), World.cell?_setCell_other _ _ _ _ (by simp)]; exact p2
  · exact World.cell?_setCell_same' _ _ _ (by rw [q0']; rfl)
  · rw [World.cell?_setCell_other _ _ _ _ (by simp), World.cell?_setCell_other _ _ _ _ (by simp)]; exact q1
  · rw [World.cell?_setCell_other _ _ _ _ (by simp), World.cell?_setCell_other _ _ _ _ (by simp)]; exact q2
end RC
end Go.Proofs.YtejglcpiihkenaaDoor

