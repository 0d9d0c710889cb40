/-
  Texts glued together for a claim: UK1 UK2 UK3 UK4 RK6.
-/
import Derived.Test.YtelblhgagpkjmaaDoorE8
import Derived.Test.YtelblhgagpkjmaaDoorE11
/-
  SumCommutes, SumSmall, SumOrder: the walks.
-/
namespace Go.Proofs.YtelblhgagpkjmaaDoor
set_option linter.unusedVariables false
set_option linter.unusedSimpArgs false
open Go.RowKit
set_option linter.unusedVariables false
set_option linter.unusedSimpArgs false
namespace SC
open L NC NK DC RC
end SC
end Go.Proofs.YtelblhgagpkjmaaDoor

/-
  SumOrder: the walk.
-/
namespace Go.Proofs.YtelblhgagpkjmaaDoor
set_option linter.unusedVariables false
set_option linter.unusedSimpArgs false
open Go.RowKit
set_option linter.unusedVariables false
set_option linter.unusedSimpArgs false
namespace SC
open L NC NK DC RC
end SC
end Go.Proofs.YtelblhgagpkjmaaDoor

/-
  SumSterbenz: value; four boxed Dyads.
-/
namespace Go.Proofs.YtelblhgagpkjmaaDoor
set_option linter.unusedVariables false
set_option linter.unusedSimpArgs false
open Go.RowKit
set_option linter.unusedVariables false
set_option linter.unusedSimpArgs false
namespace SC
open L NC NK DC RC
/-- value: a Dyad in its form, and if there is one -/
def RetVb (w : World) (d : Dy) (o : Bool) (e : Ending) (w' : World) : Prop := ∃ b A n c x, e = .returned (.tuple #[.agg #[.bool b, .slice A n c, .int .i64 x], .bool o]) ∧ GV w' b A n c x d ∧ Below w.heap.size w w'
theorem value_c (x : Int) (w : World) (h0 : 0 ≤ x) (h1 : x ≤ 18446744073709551615) (hT : TabD w) : Calls Tryd.prog 19 #[.int .u64 x] w (RetVb w (OfD x).d ((OfD x).e == 0)) := by
  obtain ⟨W0, hW0, D0, ZS, KB⟩ := res0 w
  have OF := Lib.hid (Of_d x h0 h1 W0 (hT.below D0))
  have KB := Lib.hid KB
  have D0 := Lib.hid D0
  have HW0 := Lib.hid hW0
  generalize OfD x = r at *
  clear hW0 h0 h1 hT
  go_enter Tryd.func19, Tryd.ntmps19
  go_wp2_with (first
    | (go_at_call 52; rw [HW0.out]; (with_reducible refine (OF.out).mono ?_); rintro e w5 ⟨b5, A5, n5, c5, x5, rfl, hv5, hb0⟩; have s := hb0.alloc hb0.size (.cells #[.bool b5, .slice A5 n5 c5, .int .i64 x5] 43); have D := Lib.hid s; obtain ⟨p0, p1, p2⟩ := BX.new w5 b5 A5 n5 c5 x5; have hv6 := hv5.below (al1 w5 (.cells #[.bool b5, .slice A5 n5 c5, .int .i64 x5] 43)); have R2 := KB.out _ D.out; have t0 := R2.at_ 0 rfl; have t1 := R2.at_ 1 rfl; have t2 := R2.at_ 2 rfl; have f0 := R2.frozen 0; have f1 := R2.frozen 1; have f2 := R2.frozen 2; have R2 := Lib.hid R2))
  exact bodyPost_ret (v := .tuple #[.agg #[.bool b5, .slice A5 n5 c5, .int .i64 x5], .bool (r.e == 0)]) (by simp [results, Tryd.results19, go_sem, t0, t1, t2]) rfl
    ⟨_, _, _, _, _, rfl, hv6.set3 R2.out _ _ _ (by intro z h; cases h) (by intro z h; cases h), below3 (D0.out.trans (D.out.mono D0.out.size)) (by omega) _ _ _⟩
def dc (b : Bool) (A : Option Addr) (n c : Nat) (x : Int) : Array Value := #[.bool b, .slice A n c, .int .i64 x]
/-- four boxes -/
structure Four (W0 W : World) (ga gb gp gq : Nat) (ba : Bool) (Aa : Option Addr) (na ca : Nat) (xa : Int) (bb : Bool) (Ab : Option Addr) (nb cb : Nat) (xb : Int) (bp : Bool) (Ap : Option Addr) (np cp : Nat) (xp : Int) (bq : Bool) (Aq : Option Addr) (nq cq : Nat) (xq : Int) (da db dp dq : Dy) : Prop where
  ka : Blk W ga 43 #[.bool ba, .slice Aa na ca, .int .i64 xa]
  kb : Blk W gb 43 #[.bool bb, .slice Ab nb cb, .int .i64 xb]
  kp : Blk W gp 43 #[.bool bp, .slice Ap np cp, .int .i64 xp]
  kq : Blk W gq 43 #[.bool bq, .slice Aq nq cq, .int .i64 xq]
  va : GV W ba Aa na ca xa da
  vb : GV W bb Ab nb cb xb db
  vp : GV W bp Ap np cp xp dp
  vq : GV W bq Aq nq cq xq dq
  D : Below W0.heap.size W0 W
  hp : W0.heap.size ≤ gp
  hq : W0.heap.size ≤ gq
  ap : ga ≠ gp
  aq : ga ≠ gq
  bp' : gb ≠ gp
  bq' : gb ≠ gq
  pq : gp ≠ gq
theorem Four.below {W0 W W' : World} {ga gb gp gq : Nat} {ba : Bool} {Aa : Option Addr} {na ca : Nat} {xa : Int} {bb : Bool} {Ab : Option Addr} {nb cb : Nat} {xb : Int} {bp : Bool} {Ap : Option Addr} {np cp : Nat} {xp : Int} {bq : Bool} {Aq : Option Addr} {nq cq : Nat} {xq : Int} {da db dp dq : Dy} (h : Four W0 W ga gb gp gq ba Aa na ca xa bb Ab nb cb xb bp Ap np cp xp bq Aq nq cq xq  da db dp dq) (hb : Below W.heap.size W W') : Four W0 W' ga gb gp gq ba Aa na ca xa bb Ab nb cb xb bp Ap np cp xp bq Aq nq cq xq  da db dp dq :=
  ⟨h.ka.below hb h.ka.lt, h.kb.below hb h.kb.lt, h.kp.below hb h.kp.lt, h.kq.below hb h.kq.lt, h.va.below hb, h.vb.below hb, h.vp.below hb, h.vq.below hb, h.D.trans (hb.mono h.D.size), h.hp, h.hq, h.ap, h.aq, h.bp', h.bq', h.pq⟩
end SC
end Go.Proofs.YtelblhgagpkjmaaDoor

/-
  SumSterbenz: the walk.
-/
namespace Go.Proofs.YtelblhgagpkjmaaDoor
set_option linter.unusedVariables false
set_option linter.unusedSimpArgs false
open Go.RowKit
set_option linter.unusedVariables false
set_option linter.unusedSimpArgs false
namespace SC
open L NC NK DC RC
end SC
end Go.Proofs.YtelblhgagpkjmaaDoor

/-
  RoundNear: the walk.
-/
namespace Go.Proofs.YtelblhgagpkjmaaDoor
set_option linter.unusedVariables false
set_option linter.unusedSimpArgs false
open Go.RowKit
set_option linter.unusedVariables false
set_option linter.unusedSimpArgs false
namespace RC
open L NC NK DC
open Z (Nz Tz cmpv)
end RC
end Go.Proofs.YtelblhgagpkjmaaDoor

