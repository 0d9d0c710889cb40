/-
  SumSterbenz: value; four boxed Dyads.
-/
import Derived.Test.YtpmpkllpaceloaaDoorUK2
namespace Go.Proofs.YtpmpkllpaceloaaDoor
set_option linter.unusedVariables false
set_option linter.unusedSimpArgs false
open Go.RowKit
set_option linter.unusedVariables false
set_option linter.unusedSimpArgs false
namespace SC
open L NC NK DC RC
/-- value: a Dyad in its form, and if there is one -/
def RetVb (w : World) (d : Dy) (o : Bool) (e : Ending) (w' : World) : Prop := ∃ b A n c x, e = .returned (.tuple #[.agg #[.bool b, .slice A n c, .int .i64 x], .bool o]) ∧ GV w' b A n c x d ∧ Below w.heap.size w w'
theorem value_c (x : Int) (w : World) (h0 : 0 ≤ x) (h1 : x ≤ 18446744073709551615) (hT : TabD w) : Calls Tryd.prog 27 #[.int .u64 x] w (RetVb w (OfD x).d ((OfD x).e == 0)) := by
  obtain ⟨W0, hW0, D0, ZS, KB⟩ := res0 w
  have OF := Lib.hid (Of_d x h0 h1 W0 (hT.below D0))
  have KB := Lib.hid KB
  have D0 := Lib.hid D0
  have HW0 := Lib.hid hW0
  generalize OfD x = r at *
  clear hW0 h0 h1 hT
  go_enter Tryd.func27, Tryd.ntmps27
  go_wp2_with (first
    | (go_at_call 33; rw [HW0.out]; (with_reducible refine (OF.out).mono ?_); rintro e w5 ⟨b5, A5, n5, c5, x5, rfl, hv5, hb0⟩; have s := hb0.alloc hb0.size (.cells #[.bool b5, .slice A5 n5 c5, .int .i64 x5] 51); have D := Lib.hid s; obtain ⟨p0, p1, p2⟩ := BX.new w5 b5 A5 n5 c5 x5; have hv6 := hv5.below (al1 w5 (.cells #[.bool b5, .slice A5 n5 c5, .int .i64 x5] 51)); have R2 := KB.out _ D.out; have t0 := R2.at_ 0 rfl; have t1 := R2.at_ 1 rfl; have t2 := R2.at_ 2 rfl; have f0 := R2.frozen 0; have f1 := R2.frozen 1; have f2 := R2.frozen 2; have R2 := Lib.hid R2))
  exact bodyPost_ret (v := .tuple #[.agg #[.bool b5, .slice A5 n5 c5, .int .i64 x5], .bool (r.e == 0)]) (by simp [results, Tryd.results27, go_sem, t0, t1, t2]) rfl
    ⟨_, _, _, _, _, rfl, hv6.set3 R2.out _ _ _ (by intro z h; cases h) (by intro z h; cases h), below3 (D0.out.trans (D.out.mono D0.out.size)) (by omega) _ _ _⟩
def dc (b : Bool) (A : Option Addr) (n c : Nat) (x : Int) : Array Value := #[.bool b, .slice A n c, .int .i64 x]
/-- four boxes -/
structure Four (W0 W : World) (ga gb gp gq : Nat) (ba : Bool) (Aa : Option Addr) (na ca : Nat) (xa : Int) (bb : Bool) (Ab : Option Addr) (nb cb : Nat) (xb : Int) (bp : Bool) (Ap : Option Addr) (np cp : Nat) (xp : Int) (bq : Bool) (Aq : Option Addr) (nq cq : Nat) (xq : Int) (da db dp dq : Dy) : Prop where
  ka : Blk W ga 51 #[.bool ba, .slice Aa na ca, .int .i64 xa]
  kb : Blk W gb 51 #[.bool bb, .slice Ab nb cb, .int .i64 xb]
  kp : Blk W gp 51 #[.bool bp, .slice Ap np cp, .int .i64 xp]
  kq : Blk W gq 51 #[.bool bq, .slice Aq nq cq, .int .i64 xq]
  va : GV W ba Aa na ca xa da
  vb : GV W bb Ab nb cb xb db
  vp : GV W bp Ap np cp xp dp
  vq : GV W bq Aq nq cq xq dq
  D : Below W0.heap.size W0 W
  hp : W0.heap.size ≤ gp
  hq : W0.heap.size ≤ gq
  ap : ga ≠ gp
  aq : ga ≠ gq
  bp' : gb ≠ gp
  bq' : gb ≠ gq
  pq : gp ≠ gq
theorem Four.below {W0 W W' : World} {ga gb gp gq : Nat} {ba : Bool} {Aa : Option Addr} {na ca : Nat} {xa : Int} {bb : Bool} {Ab : Option Addr} {nb cb : Nat} {xb : Int} {bp : Bool} {Ap : Option Addr} {np cp : Nat} {xp : Int} {bq : Bool} {Aq : Option Addr} {nq cq : Nat} {xq : Int} {da db dp dq : Dy} (h : Four W0 W ga gb gp gq ba Aa na ca xa bb Ab nb cb xb bp Ap np cp xp bq Aq nq cq xq  da db dp dq) (hb : Below W.heap.size W W') : Four W0 W' ga gb gp gq ba Aa na ca xa bb Ab nb cb xb bp Ap np cp xp bq Aq nq cq xq  da db dp dq :=
  ⟨h.ka.below hb h.ka.lt, h.kb.below hb h.kb.lt, h.kp.below hb h.kp.lt, h.kq.below hb h.kq.lt, h.va.below hb, h.vb.below hb, h.vp.below hb, h.vq.below hb, h.D.trans (hb.mono h.D.size), h.hp, h.hq, h.ap, h.aq, h.bp', h.bq', h.pq⟩
theorem Blk.far3 {w : World} {g g' : Nat} {t : TypeId} {cs : Array Value} (h : Blk w g t cs) (hg : g ≠ g') (x y z : Value) : Blk (((w.setCell ⟨g', 0, none⟩ x).setCell ⟨g', 1, none⟩ y).setCell ⟨g', 2, none⟩ z) g t cs :=
  ((h.far (by simpa using hg) _).far (by simpa using hg) _).far (by simpa using hg) _
/-- both last ones exchanged -/
theorem Four.swap {W0 W : World} {ga gb gp gq : Nat} {ba : Bool} {Aa : Option Addr} {na ca : Nat} {xa : Int} {bb : Bool} {Ab : Option Addr} {nb cb : Nat} {xb : Int} {bp : Bool} {Ap : Option Addr} {np cp : Nat} {xp : Int} {bq : Bool} {Aq : Option Addr} {nq cq : Nat} {xq : Int} {da db dp dq : Dy} (h : Four W0 W ga gb gp gq ba Aa na ca xa bb Ab nb cb xb bp Ap np cp xp bq Aq nq cq xq  da db dp dq) :
    Four W0 ((((((W.setCell ⟨gp, 0, none⟩ (.bool bq)).setCell ⟨gp, 1, none⟩ (.slice Aq nq cq)).setCell ⟨gp, 2, none⟩ (.int .i64 xq)).setCell ⟨gq, 0, none⟩ (.bool bp)).setCell ⟨gq, 1, none⟩ (.slice Ap np cp)).setCell ⟨gq, 2, none⟩ (.int .i64 xp)) ga gb gp gq ba Aa na ca xa bb Ab nb cb xb bq Aq nq cq xq bp Ap np cp xp  da db dq dp := by
  have kq1 := Blk.far3 h.kq h.pq.symm (.bool bq) (.slice Aq nq cq) (.int .i64 xq)
  have set1 : ∀ {b A n c x d}, GV W b A n c x d → GV (((W.setCell ⟨gp, 0, none⟩ (.bool bq)).setCell ⟨gp, 1, none⟩ (.slice Aq nq cq)).setCell ⟨gp, 2, none⟩ (.int .i64 xq)) b A n c x d := fun g => g.set3 h.kp _ _ _ (by intro z h; cases h) (by intro z h; cases h)
  have set2 : ∀ {b A n c x d}, GV W b A n c x d → GV ((((((W.setCell ⟨gp, 0, none⟩ (.bool bq)).setCell ⟨gp, 1, none⟩ (.slice Aq nq cq)).setCell ⟨gp, 2, none⟩ (.int .i64 xq)).setCell ⟨gq, 0, none⟩ (.bool bp)).setCell ⟨gq, 1, none⟩ (.slice Ap np cp)).setCell ⟨gq, 2, none⟩ (.int .i64 xp)) b A n c x d := fun g => (set1 g).set3 kq1 _ _ _ (by intro z h; cases h) (by intro z h; cases h)
  exact ⟨Blk.far3 (Blk.far3 h.ka h.ap _ _ _) h.aq _ _ _, Blk.far3 (Blk.far3 h.kb h.bp' _ _ _) h.bq' _ _ _, Blk.far3 (Blk3 h.kp _ _ _) h.pq _ _ _, Blk3 kq1 _ _ _,
    set2 h.va, set2 h.vb, set2 h.vq, set2 h.vp, below3 (below3 h.D h.hp _ _ _) h.hq _ _ _, h.hp, h.hq, h.ap, h.aq, h.bp', h.bq', h.pq⟩
end SC
end Go.Proofs.YtpmpkllpaceloaaDoor
