/-
  DyadSums: the walk.
-/
import Derived.Test.YtjplemfdhhkbaaaDoorO5
import Derived.Test.YtjplemfdhhkbaaaDoorE7
namespace Go.Proofs.YtjplemfdhhkbaaaDoor
set_option linter.unusedVariables false
set_option linter.unusedSimpArgs false
open Go.RowKit
set_option linter.unusedVariables false
set_option linter.unusedSimpArgs false
namespace QC
open Z (Nz Tz cmpv big)
open L NC NK ZC DC
/-- two numbers, each in a block of its own -/
def QP (we wx : World) (s19 s20 : Value) (s s' : Int) : Prop := ∃ g h bq Aq nq cq tq br Ar nr cr tr, s19 = .pointer (some ⟨g, 0, none⟩) ∧ s20 = .pointer (some ⟨h, 0, none⟩) ∧ Blk wx g 42 #[.bool bq, .slice Aq nq cq, .int .i64 tq] ∧ Blk wx h 42 #[.bool br, .slice Ar nr cr, .int .i64 tr] ∧ QS 22800 10000 wx (.agg #[.bool bq, .slice Aq nq cq, .int .i64 tq]) s ∧ QS 22800 10000 wx (.agg #[.bool br, .slice Ar nr cr, .int .i64 tr]) s' ∧ Below we.heap.size we wx
theorem far3 {w : World} {g g' : Nat} {t : TypeId} {cs : Array Value} (h : Blk w g t cs) (hg : g ≠ g') (x y z : Value) : Blk (((w.setCell ⟨g', 0, none⟩ x).setCell ⟨g', 1, none⟩ y).setCell ⟨g', 2, none⟩ z) g t cs :=
  ((h.far (by simpa using hg) _).far (by simpa using hg) _).far (by simpa using hg) _
theorem set3b {w : World} {g : Nat} {t : TypeId} {a0 a1 a2 : Value} (h : Blk w g t #[a0, a1, a2]) (x y z : Value) : Blk (((w.setCell ⟨g, 0, none⟩ x).setCell ⟨g, 1, none⟩ y).setCell ⟨g, 2, none⟩ z) g t #[x, y, z] :=
  by simpa using ((h.set_ 0 x).set_ 1 y).set_ 2 z
theorem qs_set {w : World} {b : Bool} {A : Option Addr} {n c : Nat} {t s : Int} {M T g : Nat} {Ty : TypeId} {b0 : Bool} {A0 : Option Addr} {n0 c0 : Nat} (h : QS M T w (.agg #[.bool b, .slice A n c, .int .i64 t]) s) (hb : Blk w g Ty #[.bool b0, .slice A0 n0 c0, .int .i64 0]) (x y z : Value) :
    QS M T (((w.setCell ⟨g, 0, none⟩ x).setCell ⟨g, 1, none⟩ y).setCell ⟨g, 2, none⟩ z) (.agg #[.bool b, .slice A n c, .int .i64 t]) s := by
  obtain ⟨z', t', ⟨b', A', n', c', e, hz⟩, k⟩ := h
  injection e with e
  have e1 := congrArg Array.toList e
  simp only [List.cons.injEq, Value.bool.injEq, Value.slice.injEq, Value.int.injEq, and_true, true_and] at e1
  obtain ⟨rfl, ⟨rfl, rfl, rfl⟩, rfl⟩ := e1
  exact ⟨z', t, ⟨b, A, n, c, rfl, set3 hz (off_q hz hb) x y z⟩, k⟩
theorem qp_set {we W : World} {g h : Nat} {bq br : Bool} {Aq Ar : Option Addr} {nq cq nr cr : Nat} {tq tr s s' : Int} (D : Below we.heap.size we W) (hg : we.heap.size ≤ g) (hh : we.heap.size ≤ h) (hne : g ≠ h)
    (G : Blk W g 42 #[.bool false, .slice none 0 0, .int .i64 0]) (H : Blk W h 42 #[.bool false, .slice none 0 0, .int .i64 0]) (hq : QS 22800 10000 W (.agg #[.bool bq, .slice Aq nq cq, .int .i64 tq]) s) (hr : QS 22800 10000 W (.agg #[.bool br, .slice Ar nr cr, .int .i64 tr]) s') :
    QP we ((((((W.setCell ⟨g, 0, none⟩ (.bool bq)).setCell ⟨g, 1, none⟩ (.slice Aq nq cq)).setCell ⟨g, 2, none⟩ (.int .i64 tq)).setCell ⟨h, 0, none⟩ (.bool br)).setCell ⟨h, 1, none⟩ (.slice Ar nr cr)).setCell ⟨h, 2, none⟩ (.int .i64 tr)) (.pointer (some ⟨g, 0, none⟩)) (.pointer (some ⟨h, 0, none⟩)) s s' := by
  have G1 := set3b G (.bool bq) (.slice Aq nq cq) (.int .i64 tq)
  have H1 := far3 H (Ne.symm hne) (.bool bq) (.slice Aq nq cq) (.int .i64 tq)
  have q1 := qs_set hq G (.bool bq) (.slice Aq nq cq) (.int .i64 tq)
  have r1 := qs_set hr G (.bool bq) (.slice Aq nq cq) (.int .i64 tq)
  exact ⟨g, h, bq, Aq, nq, cq, tq, br, Ar, nr, cr, tr, rfl, rfl, far3 G1 hne _ _ _, set3b H1 _ _ _, qs_set q1 H1 _ _ _, qs_set r1 H1 _ _ _, below3q (below3q D hg _ _ _) hh _ _ _⟩
theorem errs {c d : Dy} {E : Int} (hE : (if c.er ≠ 0 then c.er else d.er) = E) (h0 : E ≠ 0) : Cmpn c d = 0 ∧ Cmpe c d = E ∧ DC.Add c d = ⟨E, dz⟩ ∧ DC.Sub c d = ⟨E, dz⟩ ∧ DC.Mul c d = ⟨E, dz⟩ := by
  have e : ee c.er d.er = E := hE
  unfold Cmpn Cmpe DC.Add DC.Sub DC.Mul
  rw [e]
  exact ⟨if_pos h0, rfl, if_pos h0, if_pos h0, if_pos h0⟩
theorem cmpe_ok {c d : Dy} (g : Ok c) (g' : Ok d) : Cmpe c d = 0 := by
  unfold Cmpe; rw [g.1, g'.1]; rfl
theorem qv_mk {W : World} {b : Bool} {A : Option Addr} {n c : Nat} {z t : Int} (h : ZL W b A n c z) : QV W (.agg #[.bool b, .slice A n c, .int .i64 t]) z t := ⟨b, A, n, c, rfl, h⟩
theorem QAdd_w {W : World} {u u' : Value} {s s' : Int} (h1 : QS 22800 10000 W u s) (h2 : QS 22800 10000 W u' s') : Calls Tryd.prog 36 #[u, u'] W (RetS (22800 + 10000 + 22800 + 10000 + 1) (10000 + 10000) W (s + s')) := by
  have := QAdd_s (M := 22800) (T := 10000) (M' := 22800) (T' := 10000) h1 h2 (by decide) (by decide) (by decide) (by decide)
  exact this
theorem QMul_w {c d : Dy} {W : World} {u u' : Value} (h : ∀ K : Nat, K = 60000 → sc (c.m * d.m) (c.x + d.x) * 2 ^ K = S c * S d) (h1 : QS 22800 10000 W u (S c)) (h2 : QS 22800 10000 W u' (S d)) : Calls Tryd.prog 38 #[u, u'] W (RetS (22800 + 22800) (10000 + 10000) W (sc (c.m * d.m) (c.x + d.x))) := by
  obtain ⟨K, hK⟩ : ∃ K : Nat, K = 60000 := ⟨_, rfl⟩
  exact QMul_v h1 h2 (by decide) (by decide) (by decide) (by decide) hK (h K hK)
set_option maxRecDepth 100000 in
set_option maxHeartbeats 40000000 in
theorem sums_c (u v : Value) (c d : Dy) (m : Int) (w : World) (h1 : DV w u c) (h2 : DV w v d) (hT : NC.TabD w) :
    Calls Tryd.prog 4 #[u, v, .int .i64 m] w fun e w' => e = .returned (.bool true) ∧ Below w.heap.size w w' := by
  have H1 := h1
  have H2 := h2
  obtain ⟨b1, A1, n1, c1, x1, l1, rfl, -⟩ := H1
  obtain ⟨b2, A2, n2, c2, x2, l2, rfl, -⟩ := H2
  have B1 := (Blk.new w 25 #[.bool b1, .slice A1 n1 c1, .int .i64 x1]).alloc (.cells #[.bool b2, .slice A2 n2 c2, .int .i64 x2] 25)
  have B2 := Blk.new (w.alloc (.cells #[.bool b1, .slice A1 n1 c1, .int .i64 x1] 25)) 25 #[.bool b2, .slice A2 n2 c2, .int .i64 x2]
  have D0 : Below w.heap.size w ((w.alloc (.cells #[.bool b1, .slice A1 n1 c1, .int .i64 x1] 25)).alloc (.cells #[.bool b2, .slice A2 n2 c2, .int .i64 x2] 25)) := ((Below.refl _ _).alloc (Nat.le_refl _) _).alloc (by simp) _
  have e1 : (w.alloc (.cells #[.bool b1, .slice A1 n1 c1, .int .i64 x1] 25)).heap.size = w.heap.size + 1 := by simp
  rw [e1] at B2
  obtain ⟨W0, hW0⟩ : ∃ W0, (w.alloc (.cells #[.bool b1, .slice A1 n1 c1, .int .i64 x1] 25)).alloc (.cells #[.bool b2, .slice A2 n2 c2, .int .i64 x2] 25) = W0 := ⟨_, rfl⟩
  rw [hW0] at B1 B2 D0
  have V1 := h1.below D0
  have V2 := h2.below D0
  have T0 := hT.below D0
  have K0 : Hid (∀ W, Below W0.heap.size W0 W → (W.cell? ⟨w.heap.size, 0, none⟩ = some (.bool b1) ∧ W.cell? ⟨w.heap.size, 1, none⟩ = some (.slice A1 n1 c1) ∧ W.cell? ⟨w.heap.size, 2, none⟩ = some (.int .i64 x1)) ∧ (W.cell? ⟨w.heap.size + 1, 0, none⟩ = some (.bool b2) ∧ W.cell? ⟨w.heap.size + 1, 1, none⟩ = some (.slice A2 n2 c2) ∧ W.cell? ⟨w.heap.size + 1, 2, none⟩ = some (.int .i64 x2)) ∧ DV W (.agg #[.bool b1, .slice A1 n1 c1, .int .i64 x1]) c ∧ DV W (.agg #[.bool b2, .slice A2 n2 c2, .int .i64 x2]) d ∧ NC.TabD W) := fun W h => ⟨⟨(B1.below h B1.lt).at_ 0 rfl, (B1.below h B1.lt).at_ 1 rfl, (B1.below h B1.lt).at_ 2 rfl⟩, ⟨(B2.below h B2.lt).at_ 0 rfl, (B2.below h B2.lt).at_ 1 rfl, (B2.below h B2.lt).at_ 2 rfl⟩, V1.below h, V2.below h, T0.below h⟩
  obtain ⟨p0, p1, p2⟩ := (⟨B1.at_ 0 rfl, B1.at_ 1 rfl, B1.at_ 2 rfl⟩ : (W0.cell? ⟨w.heap.size, 0, none⟩ = some (.bool b1) ∧ W0.cell? ⟨w.heap.size, 1, none⟩ = some (.slice A1 n1 c1) ∧ W0.cell? ⟨w.heap.size, 2, none⟩ = some (.int .i64 x1)))
  obtain ⟨k0, hk0⟩ : ∃ k0, Cmpn c d = k0 := ⟨_, rfl⟩
  obtain ⟨e0, he0⟩ : ∃ e0, Cmpe c d = e0 := ⟨_, rfl⟩
  obtain ⟨rx, hrx⟩ : ∃ r, DC.Add c d = r := ⟨_, rfl⟩
  obtain ⟨ry, hry⟩ : ∃ r, DC.Sub c d = r := ⟨_, rfl⟩
  obtain ⟨rz, hrz⟩ : ∃ r, DC.Mul c d = r := ⟨_, rfl⟩
  obtain ⟨rs, hrs⟩ : ∃ r, Shf d m = r := ⟨_, rfl⟩
  have g1 := fun e => h1.good e
  have g2 := fun e => h2.good e
  obtain ⟨E1, hE1⟩ : ∃ E1, c.er = E1 := ⟨_, rfl⟩
  obtain ⟨E2, hE2⟩ : ∃ E2, d.er = E2 := ⟨_, rfl⟩
  obtain ⟨E, hE⟩ : ∃ E, (if c.er ≠ 0 then c.er else d.er) = E := ⟨_, rfl⟩
  have CMP : Hid (∀ W, Below W0.heap.size W0 W → Calls Tryd.prog 28 #[.agg #[.bool b1, .slice A1 n1 c1, .int .i64 x1], .agg #[.bool b2, .slice A2 n2 c2, .int .i64 x2]] W (DC.RetB W (.tuple #[.int .i64 k0, .int .i64 e0]))) := fun W h => by
    have q := K0.out W h; rw [← hk0, ← he0]; exact Cmp_d _ _ c d W q.2.2.1 q.2.2.2.1 q.2.2.2.2
  have ADD : Hid (∀ W, Below W0.heap.size W0 W → Calls Tryd.prog 29 #[.agg #[.bool b1, .slice A1 n1 c1, .int .i64 x1], .agg #[.bool b2, .slice A2 n2 c2, .int .i64 x2]] W (RetD W rx)) := fun W h => by
    have q := K0.out W h; rw [← hrx]; exact Add_d _ _ c d W q.2.2.1 q.2.2.2.1 q.2.2.2.2
  have SUB : Hid (∀ W, Below W0.heap.size W0 W → Calls Tryd.prog 30 #[.agg #[.bool b1, .slice A1 n1 c1, .int .i64 x1], .agg #[.bool b2, .slice A2 n2 c2, .int .i64 x2]] W (RetD W ry)) := fun W h => by
    have q := K0.out W h; rw [← hry]; exact Sub_d _ _ c d W q.2.2.1 q.2.2.2.1 q.2.2.2.2
  have MUL : Hid (∀ W, Below W0.heap.size W0 W → Calls Tryd.prog 31 #[.agg #[.bool b1, .slice A1 n1 c1, .int .i64 x1], .agg #[.bool b2, .slice A2 n2 c2, .int .i64 x2]] W (RetD W rz)) := fun W h => by
    have q := K0.out W h; rw [← hrz]; exact Mul_d _ _ c d W q.2.2.1 q.2.2.2.1 q.2.2.2.2
  have SHF : Hid (∀ W, Below W0.heap.size W0 W → Calls Tryd.prog 32 #[.agg #[.bool b2, .slice A2 n2 c2, .int .i64 x2], .int .i64 m] W (RetD W rs)) := fun W h => by
    have q := K0.out W h; rw [← hrs]; exact Shift_d _ d m W q.2.2.2.1 q.2.2.2.2
  have DR2 : Hid (∀ W, Below W0.heap.size W0 W → Calls Tryd.prog 16 #[.slice (some ⟨W.heap.size, 0, none⟩) 2 2] (W.alloc (.cells #[.bool b1, .slice A1 n1 c1, .int .i64 x1, .bool b2, .slice A2 n2 c2, .int .i64 x2] 25)) (DC.RetB (W.alloc (.cells #[.bool b1, .slice A1 n1 c1, .int .i64 x1, .bool b2, .slice A2 n2 c2, .int .i64 x2] 25)) (.int .i64 E))) := fun W h => by
    have q := K0.out W h
    rw [← hE]
    have h4 := Blk.new W 25 #[.bool b1, .slice A1 n1 c1, .int .i64 x1, .bool b2, .slice A2 n2 c2, .int .i64 x2]
    exact VD.DyadRight2_c b1 A1 n1 c1 x1 c b2 A2 n2 c2 x2 d _ _ (q.2.2.1.below (al1 W _)) (q.2.2.2.1.below (al1 W _)) h4.lt (h4.at_ 0 rfl) (h4.at_ 1 rfl) (h4.at_ 2 rfl) (h4.at_ 3 rfl) (h4.at_ 4 rfl) (h4.at_ 5 rfl)
  have DR1 : Hid (∀ W, Below W0.heap.size W0 W → Calls Tryd.prog 16 #[.slice (some ⟨W.heap.size, 0, none⟩) 1 1] (W.alloc (.cells #[.bool b2, .slice A2 n2 c2, .int .i64 x2] 25)) (DC.RetB (W.alloc (.cells #[.bool b2, .slice A2 n2 c2, .int .i64 x2] 25)) (.int .i64 E2))) := fun W h => by
    have q := K0.out W h
    rw [← hE2]
    have h4 := Blk.new W 25 #[.bool b2, .slice A2 n2 c2, .int .i64 x2]
    exact VD.DyadRight1_c b2 A2 n2 c2 x2 d _ _ (q.2.2.2.1.below (al1 W _)) h4.lt (h4.at_ 0 rfl) (h4.at_ 1 rfl) (h4.at_ 2 rfl)
  have NO : Hid (∀ W A c, Calls Tryd.prog 20 #[.agg #[.bool false, .slice A 0 c, .int .i64 0]] W (DC.RetB W (.bool true))) := fun W A c => by
    have := VD.NoDyad_c false A 0 c 0 W
    rwa [decide_eq_true (by exact ⟨rfl, rfl, rfl⟩)] at this
  have hb3 : ∀ W o, Below W.heap.size W (W.alloc o) := fun W o => al1 W o
  have HW0 := Lib.hid hW0
  have D0 := Lib.hid D0
  have D := Lib.hid (Below.refl W0.heap.size W0)
  have HK := Lib.hid (And.intro hk0 (And.intro he0 (And.intro hrx (And.intro hry (And.intro hrz (And.intro hrs (And.intro hE1 (And.intro hE2 hE))))))))
  have HG := Lib.hid (And.intro g1 g2)
  clear h1 h2 hT B1 B2 e1 hW0 V1 V2 T0 hk0 he0 hrx hry hrz hrs hE1 hE2 hE g1 g2 p0 p1 p2
  go_enter Tryd.func4, Tryd.ntmps4
  go_upto_region 3 with (first
    | (go_at_call 28; rw [HW0.out]; (with_reducible refine (CMP.out _ D.out).mono ?_); rintro e v1 ⟨rfl, hb⟩; have D := Lib.hid (D.out.trans (hb.mono D.out.size)); clear hb; obtain ⟨⟨p0, p1, p2⟩, ⟨q0, q1, q2⟩, -⟩ := K0.out _ D.out)
    | (go_at_call 29; (with_reducible refine (ADD.out _ D.out).mono ?_); rintro e v4 ⟨b4, A4, n4, c4, x4, rfl, gv, hb⟩; have DV4 := Lib.hid hb; clear hb))
  have X := Blk.new v4 25 #[.bool b4, .slice A4 n4 c4, .int .i64 x4]
  have GV4 := gv.below (hb3 v4 (.cells #[.bool b4, .slice A4 n4 c4, .int .i64 x4] 25))
  have DD := DV4.out.trans ((hb3 v4 (.cells #[.bool b4, .slice A4 n4 c4, .int .i64 x4] 25)).mono DV4.out.size)
  obtain ⟨W4, hW⟩ : ∃ W4, (v4.alloc (.cells #[.bool b4, .slice A4 n4 c4, .int .i64 x4] 25)) = W4 := ⟨_, rfl⟩
  obtain ⟨g4, hg⟩ : ∃ g4, v4.heap.size = g4 := ⟨_, rfl⟩
  rw [hW] at X GV4 DD ⊢
  rw [hg] at X ⊢
  have D := Lib.hid (D.out.trans (DD.mono D.out.size))
  have K4 : Hid (∀ W, Below W4.heap.size W4 W → (W.cell? ⟨g4, 0, none⟩ = some (.bool b4) ∧ W.cell? ⟨g4, 1, none⟩ = some (.slice A4 n4 c4) ∧ W.cell? ⟨g4, 2, none⟩ = some (.int .i64 x4)) ∧ GV W b4 A4 n4 c4 x4 rx.d ∧ Below W0.heap.size W0 W) := fun W h => ⟨⟨(X.below h X.lt).at_ 0 rfl, (X.below h X.lt).at_ 1 rfl, (X.below h X.lt).at_ 2 rfl⟩, GV4.below h, D.out.trans (h.mono D.out.size)⟩
  obtain ⟨⟨p0, p1, p2⟩, ⟨q0, q1, q2⟩, -⟩ := K0.out _ D.out
  clear X GV4 DD hW hg gv DV4 ADD
  go_upto_region 4 with (first
    | (go_at_call 30; (with_reducible refine (SUB.out _ D.out).mono ?_); rintro e v5 ⟨b5, A5, n5, c5, x5, rfl, gv, hb⟩; have DV5 := Lib.hid hb; clear hb))
  have X := Blk.new v5 25 #[.bool b5, .slice A5 n5 c5, .int .i64 x5]
  have GV5 := gv.below (hb3 v5 (.cells #[.bool b5, .slice A5 n5 c5, .int .i64 x5] 25))
  have DD := DV5.out.trans ((hb3 v5 (.cells #[.bool b5, .slice A5 n5 c5, .int .i64 x5] 25)).mono DV5.out.size)
  obtain ⟨W5, hW⟩ : ∃ W5, (v5.alloc (.cells #[.bool b5, .slice A5 n5 c5, .int .i64 x5] 25)) = W5 := ⟨_, rfl⟩
  obtain ⟨g5, hg⟩ : ∃ g5, v5.heap.size = g5 := ⟨_, rfl⟩
  rw [hW] at X GV5 DD ⊢
  rw [hg] at X ⊢
  have D := Lib.hid (D.out.trans (DD.mono D.out.size))
  have K5 : Hid (∀ W, Below W5.heap.size W5 W → (W.cell? ⟨g5, 0, none⟩ = some (.bool b5) ∧ W.cell? ⟨g5, 1, none⟩ = some (.slice A5 n5 c5) ∧ W.cell? ⟨g5, 2, none⟩ = some (.int .i64 x5)) ∧ GV W b5 A5 n5 c5 x5 ry.d ∧ Below W0.heap.size W0 W ∧ Below W4.heap.size W4 W) := fun W h => ⟨⟨(X.below h X.lt).at_ 0 rfl, (X.below h X.lt).at_ 1 rfl, (X.below h X.lt).at_ 2 rfl⟩, GV5.below h, D.out.trans (h.mono D.out.size), DD.trans (h.mono DD.size)⟩
  obtain ⟨⟨p0, p1, p2⟩, ⟨q0, q1, q2⟩, -⟩ := K0.out _ D.out
  clear X GV5 DD hW hg gv DV5 SUB
  go_upto_region 5 with (first
    | (go_at_call 31; (with_reducible refine (MUL.out _ D.out).mono ?_); rintro e v6 ⟨b6, A6, n6, c6, x6, rfl, gv, hb⟩; have DV6 := Lib.hid hb; clear hb))
  have X := Blk.new v6 25 #[.bool b6, .slice A6 n6 c6, .int .i64 x6]
  have GV6 := gv.below (hb3 v6 (.cells #[.bool b6, .slice A6 n6 c6, .int .i64 x6] 25))
  have DD := DV6.out.trans ((hb3 v6 (.cells #[.bool b6, .slice A6 n6 c6, .int .i64 x6] 25)).mono DV6.out.size)
  obtain ⟨W6, hW⟩ : ∃ W6, (v6.alloc (.cells #[.bool b6, .slice A6 n6 c6, .int .i64 x6] 25)) = W6 := ⟨_, rfl⟩
  obtain ⟨g6, hg⟩ : ∃ g6, v6.heap.size = g6 := ⟨_, rfl⟩
  rw [hW] at X GV6 DD ⊢
  rw [hg] at X ⊢
  have D := Lib.hid (D.out.trans (DD.mono D.out.size))
  have K6 : Hid (∀ W, Below W6.heap.size W6 W → (W.cell? ⟨g6, 0, none⟩ = some (.bool b6) ∧ W.cell? ⟨g6, 1, none⟩ = some (.slice A6 n6 c6) ∧ W.cell? ⟨g6, 2, none⟩ = some (.int .i64 x6)) ∧ GV W b6 A6 n6 c6 x6 rz.d ∧ Below W0.heap.size W0 W ∧ Below W5.heap.size W5 W) := fun W h => ⟨⟨(X.below h X.lt).at_ 0 rfl, (X.below h X.lt).at_ 1 rfl, (X.below h X.lt).at_ 2 rfl⟩, GV6.below h, D.out.trans (h.mono D.out.size), DD.trans (h.mono DD.size)⟩
  obtain ⟨⟨p0, p1, p2⟩, ⟨q0, q1, q2⟩, -⟩ := K0.out _ D.out
  clear X GV6 DD hW hg gv DV6 MUL
  go_upto_region 6 with (first
    | (go_at_call 32; (with_reducible refine (SHF.out _ D.out).mono ?_); rintro e v7 ⟨b7, A7, n7, c7, x7, rfl, gv, hb⟩; have DV7 := Lib.hid hb; clear hb))
  have X := Blk.new v7 25 #[.bool b7, .slice A7 n7 c7, .int .i64 x7]
  have GV7 := gv.below (hb3 v7 (.cells #[.bool b7, .slice A7 n7 c7, .int .i64 x7] 25))
  have DD := DV7.out.trans ((hb3 v7 (.cells #[.bool b7, .slice A7 n7 c7, .int .i64 x7] 25)).mono DV7.out.size)
  obtain ⟨W7, hW⟩ : ∃ W7, (v7.alloc (.cells #[.bool b7, .slice A7 n7 c7, .int .i64 x7] 25)) = W7 := ⟨_, rfl⟩
  obtain ⟨g7, hg⟩ : ∃ g7, v7.heap.size = g7 := ⟨_, rfl⟩
  rw [hW] at X GV7 DD ⊢
  rw [hg] at X ⊢
  have D := Lib.hid (D.out.trans (DD.mono D.out.size))
  have K7 : Hid (∀ W, Below W7.heap.size W7 W → (W.cell? ⟨g7, 0, none⟩ = some (.bool b7) ∧ W.cell? ⟨g7, 1, none⟩ = some (.slice A7 n7 c7) ∧ W.cell? ⟨g7, 2, none⟩ = some (.int .i64 x7)) ∧ GV W b7 A7 n7 c7 x7 rs.d ∧ Below W0.heap.size W0 W ∧ Below W6.heap.size W6 W) := fun W h => ⟨⟨(X.below h X.lt).at_ 0 rfl, (X.below h X.lt).at_ 1 rfl, (X.below h X.lt).at_ 2 rfl⟩, GV7.below h, D.out.trans (h.mono D.out.size), DD.trans (h.mono DD.size)⟩
  obtain ⟨⟨p0, p1, p2⟩, ⟨q0, q1, q2⟩, -⟩ := K0.out _ D.out
  clear X GV7 DD hW hg gv DV7 SHF
  clear CMP HW0
  have D7 := D
  have D := Lib.hid (Below.refl W7.heap.size W7)
  have KA : Hid (∀ W, Below W7.heap.size W7 W → ((W.cell? ⟨g4, 0, none⟩ = some (.bool b4) ∧ W.cell? ⟨g4, 1, none⟩ = some (.slice A4 n4 c4) ∧ W.cell? ⟨g4, 2, none⟩ = some (.int .i64 x4)) ∧ (W.cell? ⟨g5, 0, none⟩ = some (.bool b5) ∧ W.cell? ⟨g5, 1, none⟩ = some (.slice A5 n5 c5) ∧ W.cell? ⟨g5, 2, none⟩ = some (.int .i64 x5)) ∧ (W.cell? ⟨g6, 0, none⟩ = some (.bool b6) ∧ W.cell? ⟨g6, 1, none⟩ = some (.slice A6 n6 c6) ∧ W.cell? ⟨g6, 2, none⟩ = some (.int .i64 x6)) ∧ (W.cell? ⟨g7, 0, none⟩ = some (.bool b7) ∧ W.cell? ⟨g7, 1, none⟩ = some (.slice A7 n7 c7) ∧ W.cell? ⟨g7, 2, none⟩ = some (.int .i64 x7)) ∧ (W.cell? ⟨w.heap.size, 0, none⟩ = some (.bool b1) ∧ W.cell? ⟨w.heap.size, 1, none⟩ = some (.slice A1 n1 c1) ∧ W.cell? ⟨w.heap.size, 2, none⟩ = some (.int .i64 x1)) ∧ (W.cell? ⟨w.heap.size + 1, 0, none⟩ = some (.bool b2) ∧ W.cell? ⟨w.heap.size + 1, 1, none⟩ = some (.slice A2 n2 c2) ∧ W.cell? ⟨w.heap.size + 1, 2, none⟩ = some (.int .i64 x2))) ∧ GV W b4 A4 n4 c4 x4 rx.d ∧ GV W b5 A5 n5 c5 x5 ry.d ∧ GV W b6 A6 n6 c6 x6 rz.d ∧ GV W b7 A7 n7 c7 x7 rs.d ∧ Below W0.heap.size W0 W) := fun W h => by
    have y7 := K7.out W h
    have y6 := K6.out W y7.2.2.2
    have y5 := K5.out W y6.2.2.2
    have y4 := K4.out W y5.2.2.2
    have y0 := K0.out W y7.2.2.1
    exact ⟨⟨y4.1, y5.1, y6.1, y7.1, y0.1, y0.2.1⟩, y4.2.1, y5.2.1, y6.2.1, y7.2.1, y7.2.2.1⟩
  clear K4 K5 K6 K7
  obtain ⟨⟨⟨s0, s1, s2⟩, ⟨s3, s4, s5⟩, ⟨s6, s7, s8⟩, ⟨t0, t1, t2⟩, ⟨p0, p1, p2⟩, ⟨q0, q1, q2⟩⟩, -⟩ := KA.out _ D.out
  go_upto_region 8 with (first
    | (go_at_call 16; (with_reducible refine (DR2.out W7 (KA.out _ D.out).2.2.2.2.2).mono ?_); rintro e v8 ⟨rfl, hb⟩; have D := Lib.hid ((hb3 W7 _).trans (hb.mono (hb3 W7 _).size)); clear hb; obtain ⟨⟨⟨s0, s1, s2⟩, ⟨s3, s4, s5⟩, ⟨s6, s7, s8⟩, ⟨t0, t1, t2⟩, ⟨p0, p1, p2⟩, ⟨q0, q1, q2⟩⟩, -⟩ := KA.out _ D.out)
    | (go_at_call 16; (with_reducible refine (DR1.out v8 (KA.out _ D.out).2.2.2.2.2).mono ?_); rintro e v9 ⟨rfl, hb⟩; have hb := (hb3 v8 _).trans (hb.mono (hb3 v8 _).size); have D := Lib.hid (D.out.trans (hb.mono D.out.size)); clear hb; obtain ⟨⟨⟨s0, s1, s2⟩, ⟨s3, s4, s5⟩, ⟨s6, s7, s8⟩, ⟨t0, t1, t2⟩, ⟨p0, p1, p2⟩, ⟨q0, q1, q2⟩⟩, -⟩ := KA.out _ D.out))
  clear DR1 DR2
  obtain ⟨hk0, he0, hrx, hry, hrz, hrs, hE1, hE2, hE⟩ := HK.out
  obtain ⟨hg1, hg2⟩ := HG.out
  rw [hE1, hE2] at hE
  have hm : (m < -20000 ∨ 20000 < m) ∨ (-20000 ≤ m ∧ m ≤ 20000) := by omega
  have ERR : E ≠ 0 → k0 = 0 ∧ e0 = E ∧ rx = ⟨E, dz⟩ ∧ ry = ⟨E, dz⟩ ∧ rz = ⟨E, dz⟩ := fun h => by
    rw [← hk0, ← he0, ← hrx, ← hry, ← hrz]
    exact errs (by rw [hE1, hE2]; exact hE) h
  have SHE : E2 ≠ 0 → rs = ⟨E2, dz⟩ := fun h => by rw [← hrs, ← hE2]; unfold Shf; rw [if_pos (by rw [hE2]; exact h)]
  have SHB : E2 = 0 → (m < -20000 ∨ 20000 < m) → rs = ⟨1, dz⟩ := fun h h' => by rw [← hrs]; unfold Shf; rw [if_neg (by rw [hE2, h]; simp), if_pos h']
  by_cases h2 : E2 = 0
  · subst h2
    clear SHE
    have SHE : True := trivial
    rcases hm with hm | hm
    · skip
      have r6 := SHB rfl hm
      have BT : Hid (∀ W, Calls Tryd.prog 24 #[.int .i64 m, .int .i64 (-20000), .int .i64 20000] W fun e w' => e = .returned (.bool false) ∧ W = w') := fun W => FloatR.Between_f _ _ _ hm W
      by_cases he1 : E1 = 0
      · as_aux_lemma =>
            subst he1
            have oc : Ok c := hg1 (by rw [hE1])
            have od : Ok d := hg2 (by rw [hE2])
            obtain rfl : E = 0 := by rw [← hE]; simp
            obtain rfl : e0 = 0 := by rw [← he0]; exact cmpe_ok oc od
            have QOc : Hid (∀ W, Below W0.heap.size W0 W → Calls Tryd.prog 34 #[.agg #[.bool b1, .slice A1 n1 c1, .int .i64 x1]] W (RetS 22800 10000 W (S c))) := fun W h => QOf_s _ c W (K0.out W h).2.2.1 oc.1
            have QOd : Hid (∀ W, Below W0.heap.size W0 W → Calls Tryd.prog 34 #[.agg #[.bool b2, .slice A2 n2 c2, .int .i64 x2]] W (RetS 22800 10000 W (S d))) := fun W h => QOf_s _ d W (K0.out W h).2.2.2.1 od.1
            have QCm : Hid (∀ W u u', QS 22800 10000 W u (S c) → QS 22800 10000 W u' (S d) → Calls Tryd.prog 35 #[u, u'] W fun e w' => e = .returned (.int .i64 k0) ∧ Below W.heap.size W w') := fun W u u' h h' => by
              have := QCmp_s h h' (by decide) (by decide) (by decide) (by decide)
              rwa [cmp_sc oc od, hk0] at this
            have QAd : Hid (∀ W u u', QS 22800 10000 W u (S c) → QS 22800 10000 W u' (S d) → Calls Tryd.prog 36 #[u, u'] W (RetS (22800 + 10000 + 22800 + 10000 + 1) (10000 + 10000) W (S c + S d))) := fun W u u' h h' => QAdd_w h h'
            have QAe : Hid (∀ W u u', QS 22800 10000 W u (S c) → QS 22800 10000 W u' (-S d) → Calls Tryd.prog 36 #[u, u'] W (RetS (22800 + 10000 + 22800 + 10000 + 1) (10000 + 10000) W (S c + -S d))) := fun W u u' h h' => QAdd_w h h'
            have QNg : Hid (∀ W u, QS 22800 10000 W u (S d) → Calls Tryd.prog 37 #[u] W (RetS 22800 10000 W (-S d))) := fun W u h => QNeg_s h (by decide)
            obtain ⟨m1, m2⟩ := mul_sc oc od
            have QMu : Hid (∀ W u u', QS 22800 10000 W u (S c) → QS 22800 10000 W u' (S d) → Calls Tryd.prog 38 #[u, u'] W (RetS (22800 + 22800) (10000 + 10000) W (sc (c.m * d.m) (c.x + d.x)))) := fun W u u' h h' => QMul_w m2 h h'
            have TX : Hid (∀ W u b A n c' x, GV W b A n c' x rx.d → QS (22800 + 10000 + 22800 + 10000 + 1) (10000 + 10000) W u (S c + S d) → Calls Tryd.prog 21 #[.agg #[.bool b, .slice A n c', .int .i64 x], .int .i64 rx.e, u] W (DC.RetB W (.bool true))) := fun W u b A n c' x h h' => by
              obtain ⟨l1, l2⟩ := add_sc oc od
              exact told_s h h' (by decide) (by decide) (hrx.symm.trans l1) l2 (by have := oc.2.2.2.2; have := od.2.2.2.2; omega)
            have TY : Hid (∀ W u b A n c' x, GV W b A n c' x ry.d → QS (22800 + 10000 + 22800 + 10000 + 1) (10000 + 10000) W u (S c + -S d) → Calls Tryd.prog 21 #[.agg #[.bool b, .slice A n c', .int .i64 x], .int .i64 ry.e, u] W (DC.RetB W (.bool true))) := fun W u b A n c' x h h' => by
              obtain ⟨l1, l2⟩ := sub_sc oc od
              exact told_s h h' (by decide) (by decide) (hry.symm.trans l1) l2 (by have := oc.2.2.2.2; have := od.2.2.2.2; omega)
            have TZ : Hid (∀ W u b A n c' x, GV W b A n c' x rz.d → QS (22800 + 22800) (10000 + 10000) W u (sc (c.m * d.m) (c.x + d.x)) → Calls Tryd.prog 21 #[.agg #[.bool b, .slice A n c', .int .i64 x], .int .i64 rz.e, u] W (DC.RetB W (.bool true))) := fun W u b A n c' x h h' => told_s h h' (by decide) (by decide) (hrz.symm.trans m1) rfl (by have := oc.2.2.2.2; have := od.2.2.2.2; omega)
            clear hk0 he0 hrx hry hrz HK hg1 hg2 HG ERR SHE SHB m1 m2 oc od hrs hE
            subst r6
            obtain ⟨i1, i2, i3⟩ := (VD.none_iff (KA.out _ D.out).2.2.2.2.1).2 rfl
            subst i1; subst i2; subst i3
            obtain ⟨⟨⟨s0, s1, s2⟩, ⟨s3, s4, s5⟩, ⟨s6, s7, s8⟩, ⟨t0, t1, t2⟩, ⟨p0, p1, p2⟩, ⟨q0, q1, q2⟩⟩, -⟩ := KA.out _ D.out
            clear hm
            go_upto_region 17 with (first
              | (go_at_call 24; (with_reducible refine (BT.out _).mono ?_); rintro e v11 ⟨rfl, rfl⟩)
              | (go_at_call 20; (with_reducible refine (NO.out _ _ _).mono ?_); rintro e v10 ⟨rfl, hb⟩; have D := Lib.hid (D.out.trans (hb.mono D.out.size)); clear hb; obtain ⟨⟨⟨s0, s1, s2⟩, ⟨s3, s4, s5⟩, ⟨s6, s7, s8⟩, ⟨t0, t1, t2⟩, ⟨p0, p1, p2⟩, ⟨q0, q1, q2⟩⟩, -⟩ := KA.out _ D.out))
            obtain ⟨we0, hwe0⟩ : ∃ we0, we0 = v10 := ⟨_, rfl⟩
            rw [← hwe0] at D ⊢
            obtain ⟨we, hwe⟩ : ∃ we, we = we0 := ⟨_, rfl⟩
            have KE : Hid (∀ W, Below we.heap.size we W → Below W7.heap.size W7 W) := fun W h => by rw [hwe] at h; exact D.out.trans (h.mono D.out.size)
            have DE : Below we.heap.size we we0 := by rw [hwe]; exact Below.refl _ _
            clear s0 s1 s2 s3 s4 s5 s6 s7 s8 t0 t1 t2 p0 p1 p2 q0 q1 q2
            clear hwe hwe0 D
            go_cut [19, 20] (fun s19 s20 wx => QP we wx s19 s20 (S c) (S d))
            case first =>
              have KQ : Hid (∀ W, Below we.heap.size we W → ((W.cell? ⟨g4, 0, none⟩ = some (.bool b4) ∧ W.cell? ⟨g4, 1, none⟩ = some (.slice A4 n4 c4) ∧ W.cell? ⟨g4, 2, none⟩ = some (.int .i64 x4)) ∧ (W.cell? ⟨g5, 0, none⟩ = some (.bool b5) ∧ W.cell? ⟨g5, 1, none⟩ = some (.slice A5 n5 c5) ∧ W.cell? ⟨g5, 2, none⟩ = some (.int .i64 x5)) ∧ (W.cell? ⟨g6, 0, none⟩ = some (.bool b6) ∧ W.cell? ⟨g6, 1, none⟩ = some (.slice A6 n6 c6) ∧ W.cell? ⟨g6, 2, none⟩ = some (.int .i64 x6)) ∧ (W.cell? ⟨g7, 0, none⟩ = some (.bool false) ∧ W.cell? ⟨g7, 1, none⟩ = some (.slice A7 0 c7) ∧ W.cell? ⟨g7, 2, none⟩ = some (.int .i64 0)) ∧ (W.cell? ⟨w.heap.size, 0, none⟩ = some (.bool b1) ∧ W.cell? ⟨w.heap.size, 1, none⟩ = some (.slice A1 n1 c1) ∧ W.cell? ⟨w.heap.size, 2, none⟩ = some (.int .i64 x1)) ∧ (W.cell? ⟨w.heap.size + 1, 0, none⟩ = some (.bool b2) ∧ W.cell? ⟨w.heap.size + 1, 1, none⟩ = some (.slice A2 n2 c2) ∧ W.cell? ⟨w.heap.size + 1, 2, none⟩ = some (.int .i64 x2)))) := fun W h => (KA.out W (KE.out W h)).1
              have KW : Hid (∀ W, Below we.heap.size we W → Below W0.heap.size W0 W) := fun W h => (KA.out W (KE.out W h)).2.2.2.2.2
              have D := DE.drew
              clear KA KE K0 QCm QAd QAe QNg QMu TX TY TZ NO DE
              (refine wp_region_L (S := fun w' => ((w'.cell? ⟨g4, 0, none⟩ = some (.bool b4) ∧ w'.cell? ⟨g4, 1, none⟩ = some (.slice A4 n4 c4) ∧ w'.cell? ⟨g4, 2, none⟩ = some (.int .i64 x4)) ∧ (w'.cell? ⟨g5, 0, none⟩ = some (.bool b5) ∧ w'.cell? ⟨g5, 1, none⟩ = some (.slice A5 n5 c5) ∧ w'.cell? ⟨g5, 2, none⟩ = some (.int .i64 x5)) ∧ (w'.cell? ⟨g6, 0, none⟩ = some (.bool b6) ∧ w'.cell? ⟨g6, 1, none⟩ = some (.slice A6 n6 c6) ∧ w'.cell? ⟨g6, 2, none⟩ = some (.int .i64 x6)) ∧ (w'.cell? ⟨g7, 0, none⟩ = some (.bool false) ∧ w'.cell? ⟨g7, 1, none⟩ = some (.slice A7 0 c7) ∧ w'.cell? ⟨g7, 2, none⟩ = some (.int .i64 0)) ∧ (w'.cell? ⟨w.heap.size, 0, none⟩ = some (.bool b1) ∧ w'.cell? ⟨w.heap.size, 1, none⟩ = some (.slice A1 n1 c1) ∧ w'.cell? ⟨w.heap.size, 2, none⟩ = some (.int .i64 x1)) ∧ (w'.cell? ⟨w.heap.size + 1, 0, none⟩ = some (.bool b2) ∧ w'.cell? ⟨w.heap.size + 1, 1, none⟩ = some (.slice A2 n2 c2) ∧ w'.cell? ⟨w.heap.size + 1, 2, none⟩ = some (.int .i64 x2)))) (nl := 1000000) (by kernel_rfl) ?_ (fun hHeld => ?_); focus (exact KQ.out _ D))
              (refine wpAnyL_take (i := 0) (oi := _) (v := ?_) rfl (by kernel_rfl) (by kernel_rfl) (by kernel_rfl) (fun _ _ _ h => h) (Or.inl ⟨by first | rfl | kernel_rfl, ?hy1⟩) (by assumption) ?rs1; (case hy1 => (intro w hSw; (try dsimp only at hSw); go_simp; first | done | with_reducible rfl)); case' rs1 => (simp only [List.getElem_toArray, List.getElem_cons_zero, List.getElem_cons_succ, Act.put, List.setIfInBounds_toArray, List.set_cons_zero, List.set_cons_succ])); (refine wpAnyL_take (i := 2) (oi := _) (v := ?_) rfl (by kernel_rfl) (by kernel_rfl) (by kernel_rfl) (fun _ _ _ h => h) (Or.inl ⟨by first | rfl | kernel_rfl, ?hy2⟩) (by assumption) ?rs2; (case hy2 => (intro w hSw; (try dsimp only at hSw); go_simp; first | done | with_reducible rfl)); case' rs2 => (simp only [List.getElem_toArray, List.getElem_cons_zero, List.getElem_cons_succ, Act.put, List.setIfInBounds_toArray, List.set_cons_zero, List.set_cons_succ])); skip
              refine wpAnyL_three (i := 1) (j := 4) (k := 5) (oi := _) (oj := _) (ok := _) (by kernel_rfl) rfl rfl rfl (fun K hK => ?_) (fun K hK => ?_) (fun K hK => ?_)
              · as_aux_lemma =>
                  (clear hHeld; simp only [List.getElem_toArray, List.getElem_cons_zero, List.getElem_cons_succ]; go_simp; (go_at_call 34; (with_reducible refine (QOc.out _ (KW.out _ D)).mono ?_); rintro e w3 ⟨bq, Aq, nq, cq, tq, zq, rfl, hz, y1, y2, y3, y4, hb⟩; have hq := RetS.qs hz y1 y2 y3 y4; have D := D.trans (hb.mono D.size)); refine hK.out _ _ ?_ (fun hHeld => ?_); focus (intro _; exact KQ.out _ D)); have hHeld := hHeld (by decide); clear hK K; (try simp only [Act.put, List.setIfInBounds_toArray, List.set_cons_zero, List.set_cons_succ])
                  clear hz y1 y2 y3 y4 hb
                  refine wpAnyL_three (i := 3) (j := 4) (k := 5) (oi := _) (oj := _) (ok := _) (by kernel_rfl) rfl rfl rfl (fun K hK => ?_) (fun K hK => ?_) (fun K hK => ?_)
                  · as_aux_lemma =>
                      (clear hHeld; simp only [List.getElem_toArray, List.getElem_cons_zero, List.getElem_cons_succ]; go_simp; (go_at_call 34; (with_reducible refine (QOd.out _ (KW.out _ D)).mono ?_); rintro e w4 ⟨br', Ar, nr, cr, tr, zr, rfl, hz', z1, z2, z3, z4, hb⟩; have hr := RetS.qs hz' z1 z2 z3 z4; have hq := hq.below hb; have D := D.trans (hb.mono D.size)); refine hK.out _ _ ?_ (fun hHeld => ?_); focus (intro _; exact KQ.out _ D)); have hHeld := hHeld (by decide); clear hK K; (try simp only [Act.put, List.setIfInBounds_toArray, List.set_cons_zero, List.set_cons_succ])
                      clear hz' z1 z2 z3 z4 hb
                      refine wpAnyL_two (i := 4) (j := 5) (oi := _) (oj := _) (by kernel_rfl) rfl rfl (fun K hK => ?_) (fun K hK => ?_)
                      · as_aux_lemma =>
                          (clear hHeld; simp only [List.getElem_toArray, List.getElem_cons_zero, List.getElem_cons_succ]; go_simp; refine hK.out _ _ ?_ (fun hHeld => ?_); focus (intro _; exact KQ.out _ (D.alloc D.size _))); have hHeld := hHeld (by decide); clear hK K; (try simp only [Act.put, List.setIfInBounds_toArray, List.set_cons_zero, List.set_cons_succ])
                          have G' := Blk.new w4 42 #[.bool false, .slice none 0 0, .int .i64 0]
                          have Gn : we.heap.size ≤ w4.heap.size := D.size
                          have hq := hq.below (hb3 w4 (.cells #[.bool false, .slice none 0 0, .int .i64 0] 42))
                          have hr := hr.below (hb3 w4 (.cells #[.bool false, .slice none 0 0, .int .i64 0] 42))
                          have D1 : Below we.heap.size we (w4.alloc (.cells #[.bool false, .slice none 0 0, .int .i64 0] 42)) := D.alloc D.size (.cells #[.bool false, .slice none 0 0, .int .i64 0] 42)
                          clear D
                          have D := D1
                          clear D1
                          obtain ⟨w8, hw8⟩ : ∃ w8, w4.alloc (.cells #[.bool false, .slice none 0 0, .int .i64 0] 42) = w8 := ⟨_, rfl⟩
                          obtain ⟨Gg, hGg⟩ : ∃ Gg, w4.heap.size = Gg := ⟨_, rfl⟩
                          rw [hw8] at G' D hq hr hHeld ⊢
                          rw [hGg] at G' Gn ⊢
                          have G := G'
                          clear G' hw8 hGg
                          (refine wpAnyL_one (i := 5) (o := _) (by kernel_rfl) rfl (fun K hK => ?_); clear hHeld; simp only [List.getElem_toArray, List.getElem_cons_zero, List.getElem_cons_succ]; go_simp; refine hK.out _ _ ?_ (fun hHeld => ?_); focus (intro _; exact KQ.out _ (D.alloc D.size _))); have hHeld := hHeld (by decide); clear hK K; (try simp only [Act.put, List.setIfInBounds_toArray, List.set_cons_zero, List.set_cons_succ])
                          have H' := Blk.new w8 42 #[.bool false, .slice none 0 0, .int .i64 0]
                          have Hn : we.heap.size ≤ w8.heap.size := D.size
                          have hne : Gg ≠ w8.heap.size := Nat.ne_of_lt G.lt
                          have G := G.alloc (.cells #[.bool false, .slice none 0 0, .int .i64 0] 42)
                          have hq := hq.below (hb3 w8 (.cells #[.bool false, .slice none 0 0, .int .i64 0] 42))
                          have hr := hr.below (hb3 w8 (.cells #[.bool false, .slice none 0 0, .int .i64 0] 42))
                          have D1 : Below we.heap.size we (w8.alloc (.cells #[.bool false, .slice none 0 0, .int .i64 0] 42)) := D.alloc D.size (.cells #[.bool false, .slice none 0 0, .int .i64 0] 42)
                          clear D
                          have D := D1
                          clear D1
                          obtain ⟨w9, hw9⟩ : ∃ w9, w8.alloc (.cells #[.bool false, .slice none 0 0, .int .i64 0] 42) = w9 := ⟨_, rfl⟩
                          obtain ⟨Hg, hHg⟩ : ∃ Hg, w8.heap.size = Hg := ⟨_, rfl⟩
                          rw [hw9] at H' D G hq hr hHeld ⊢
                          rw [hHg] at H' Hn hne ⊢
                          have H := H'
                          clear H' hw9 hHg
                          have X := Lib.hid (qp_set D Gn Hn hne G H hq hr)
                          have D10 := below3q D Gn (.bool bq) (.slice Aq nq cq) (.int .i64 tq)
                          have D11 := below3q D10 Hn (.bool br') (.slice Ar nr cr) (.int .i64 tr)
                          have H1 := far3 H (hne).symm (.bool bq) (.slice Aq nq cq) (.int .i64 tq)
                          have g0 := G.at_ 0 rfl; have g1 := G.at_ 1 rfl; have g2 := G.at_ 2 rfl; have f0 := G.frozen 0; have f1 := G.frozen 1; have f2 := G.frozen 2; have h0 := H1.at_ 0 rfl; have h1 := H1.at_ 1 rfl; have h2 := H1.at_ 2 rfl; have f3 := H1.frozen 0; have f4 := H1.frozen 1; have f5 := H1.frozen 2
                          have D10 := Lib.hid D10; have D11 := Lib.hid D11
                          clear G H H1 D hq hr
                          (refine wpAnyL_one (i := 6) (o := _) (by kernel_rfl) rfl (fun K hK => ?_); clear hHeld; simp only [List.getElem_toArray, List.getElem_cons_zero, List.getElem_cons_succ]; go_simp; refine hK.out _ _ ?_ (fun hHeld => ?_); focus (intro _; exact KQ.out _ D10.out)); have hHeld := hHeld (by decide); clear hK K; (try simp only [Act.put, List.setIfInBounds_toArray, List.set_cons_zero, List.set_cons_succ])
                          (refine wpAnyL_one (i := 7) (o := _) (by kernel_rfl) rfl (fun K hK => ?_); clear hHeld; simp only [List.getElem_toArray, List.getElem_cons_zero, List.getElem_cons_succ]; go_simp; refine hK.out _ _ ?_ (fun hHeld => ?_); focus (intro _; exact KQ.out _ D11.out)); have hHeld := hHeld (by decide); clear hK K; (try simp only [Act.put, List.setIfInBounds_toArray, List.set_cons_zero, List.set_cons_succ])
                          refine wpAnyL_done (by kernel_rfl) ?_ _
                          go_wp2
                          go_meet
                          exact X.out
                      · as_aux_lemma =>
                          (clear hHeld; simp only [List.getElem_toArray, List.getElem_cons_zero, List.getElem_cons_succ]; go_simp; refine hK.out _ _ ?_ (fun hHeld => ?_); focus (intro _; exact KQ.out _ (D.alloc D.size _))); have hHeld := hHeld (by decide); clear hK K; (try simp only [Act.put, List.setIfInBounds_toArray, List.set_cons_zero, List.set_cons_succ])
                          have H' := Blk.new w4 42 #[.bool false, .slice none 0 0, .int .i64 0]
                          have Hn : we.heap.size ≤ w4.heap.size := D.size
                          have hq := hq.below (hb3 w4 (.cells #[.bool false, .slice none 0 0, .int .i64 0] 42))
                          have hr := hr.below (hb3 w4 (.cells #[.bool false, .slice none 0 0, .int .i64 0] 42))
                          have D1 : Below we.heap.size we (w4.alloc (.cells #[.bool false, .slice none 0 0, .int .i64 0] 42)) := D.alloc D.size (.cells #[.bool false, .slice none 0 0, .int .i64 0] 42)
                          clear D
                          have D := D1
                          clear D1
                          obtain ⟨w9, hw9⟩ : ∃ w9, w4.alloc (.cells #[.bool false, .slice none 0 0, .int .i64 0] 42) = w9 := ⟨_, rfl⟩
                          obtain ⟨Hg, hHg⟩ : ∃ Hg, w4.heap.size = Hg := ⟨_, rfl⟩
                          rw [hw9] at H' D hq hr hHeld ⊢
                          rw [hHg] at H' Hn ⊢
                          have H := H'
                          clear H' hw9 hHg
                          (refine wpAnyL_one (i := 4) (o := _) (by kernel_rfl) rfl (fun K hK => ?_); clear hHeld; simp only [List.getElem_toArray, List.getElem_cons_zero, List.getElem_cons_succ]; go_simp; refine hK.out _ _ ?_ (fun hHeld => ?_); focus (intro _; exact KQ.out _ (D.alloc D.size _))); have hHeld := hHeld (by decide); clear hK K; (try simp only [Act.put, List.setIfInBounds_toArray, List.set_cons_zero, List.set_cons_succ])
                          have G' := Blk.new w9 42 #[.bool false, .slice none 0 0, .int .i64 0]
                          have Gn : we.heap.size ≤ w9.heap.size := D.size
                          have hne : Hg ≠ w9.heap.size := Nat.ne_of_lt H.lt
                          have H := H.alloc (.cells #[.bool false, .slice none 0 0, .int .i64 0] 42)
                          have hq := hq.below (hb3 w9 (.cells #[.bool false, .slice none 0 0, .int .i64 0] 42))
                          have hr := hr.below (hb3 w9 (.cells #[.bool false, .slice none 0 0, .int .i64 0] 42))
                          have D1 : Below we.heap.size we (w9.alloc (.cells #[.bool false, .slice none 0 0, .int .i64 0] 42)) := D.alloc D.size (.cells #[.bool false, .slice none 0 0, .int .i64 0] 42)
                          clear D
                          have D := D1
                          clear D1
                          obtain ⟨w8, hw8⟩ : ∃ w8, w9.alloc (.cells #[.bool false, .slice none 0 0, .int .i64 0] 42) = w8 := ⟨_, rfl⟩
                          obtain ⟨Gg, hGg⟩ : ∃ Gg, w9.heap.size = Gg := ⟨_, rfl⟩
                          rw [hw8] at G' D H hq hr hHeld ⊢
                          rw [hGg] at G' Gn hne ⊢
                          have G := G'
                          clear G' hw8 hGg
                          have X := Lib.hid (qp_set D Gn Hn hne.symm G H hq hr)
                          have D10 := below3q D Gn (.bool bq) (.slice Aq nq cq) (.int .i64 tq)
                          have D11 := below3q D10 Hn (.bool br') (.slice Ar nr cr) (.int .i64 tr)
                          have H1 := far3 H (hne.symm).symm (.bool bq) (.slice Aq nq cq) (.int .i64 tq)
                          have g0 := G.at_ 0 rfl; have g1 := G.at_ 1 rfl; have g2 := G.at_ 2 rfl; have f0 := G.frozen 0; have f1 := G.frozen 1; have f2 := G.frozen 2; have h0 := H1.at_ 0 rfl; have h1 := H1.at_ 1 rfl; have h2 := H1.at_ 2 rfl; have f3 := H1.frozen 0; have f4 := H1.frozen 1; have f5 := H1.frozen 2
                          have D10 := Lib.hid D10; have D11 := Lib.hid D11
                          clear G H H1 D hq hr
                          (refine wpAnyL_one (i := 6) (o := _) (by kernel_rfl) rfl (fun K hK => ?_); clear hHeld; simp only [List.getElem_toArray, List.getElem_cons_zero, List.getElem_cons_succ]; go_simp; refine hK.out _ _ ?_ (fun hHeld => ?_); focus (intro _; exact KQ.out _ D10.out)); have hHeld := hHeld (by decide); clear hK K; (try simp only [Act.put, List.setIfInBounds_toArray, List.set_cons_zero, List.set_cons_succ])
                          (refine wpAnyL_one (i := 7) (o := _) (by kernel_rfl) rfl (fun K hK => ?_); clear hHeld; simp only [List.getElem_toArray, List.getElem_cons_zero, List.getElem_cons_succ]; go_simp; refine hK.out _ _ ?_ (fun hHeld => ?_); focus (intro _; exact KQ.out _ D11.out)); have hHeld := hHeld (by decide); clear hK K; (try simp only [Act.put, List.setIfInBounds_toArray, List.set_cons_zero, List.set_cons_succ])
                          refine wpAnyL_done (by kernel_rfl) ?_ _
                          go_wp2
                          go_meet
                          exact X.out
                  · as_aux_lemma =>
                      (clear hHeld; simp only [List.getElem_toArray, List.getElem_cons_zero, List.getElem_cons_succ]; go_simp; refine hK.out _ _ ?_ (fun hHeld => ?_); focus (intro _; exact KQ.out _ (D.alloc D.size _))); have hHeld := hHeld (by decide); clear hK K; (try simp only [Act.put, List.setIfInBounds_toArray, List.set_cons_zero, List.set_cons_succ])
                      have G' := Blk.new w3 42 #[.bool false, .slice none 0 0, .int .i64 0]
                      have Gn : we.heap.size ≤ w3.heap.size := D.size
                      have hq := hq.below (hb3 w3 (.cells #[.bool false, .slice none 0 0, .int .i64 0] 42))
                      have D1 : Below we.heap.size we (w3.alloc (.cells #[.bool false, .slice none 0 0, .int .i64 0] 42)) := D.alloc D.size (.cells #[.bool false, .slice none 0 0, .int .i64 0] 42)
                      clear D
                      have D := D1
                      clear D1
                      obtain ⟨w8, hw8⟩ : ∃ w8, w3.alloc (.cells #[.bool false, .slice none 0 0, .int .i64 0] 42) = w8 := ⟨_, rfl⟩
                      obtain ⟨Gg, hGg⟩ : ∃ Gg, w3.heap.size = Gg := ⟨_, rfl⟩
                      rw [hw8] at G' D hq hHeld ⊢
                      rw [hGg] at G' Gn ⊢
                      have G := G'
                      clear G' hw8 hGg
                      refine wpAnyL_two (i := 3) (j := 5) (oi := _) (oj := _) (by kernel_rfl) rfl rfl (fun K hK => ?_) (fun K hK => ?_)
                      · as_aux_lemma =>
                          (clear hHeld; simp only [List.getElem_toArray, List.getElem_cons_zero, List.getElem_cons_succ]; go_simp; (go_at_call 34; (with_reducible refine (QOd.out _ (KW.out _ D)).mono ?_); rintro e w4 ⟨br', Ar, nr, cr, tr, zr, rfl, hz', z1, z2, z3, z4, hb⟩; have hr := RetS.qs hz' z1 z2 z3 z4; have hq := hq.below hb; have D := D.trans (hb.mono D.size); have G := G.below hb G.lt); refine hK.out _ _ ?_ (fun hHeld => ?_); focus (intro _; exact KQ.out _ D)); have hHeld := hHeld (by decide); clear hK K; (try simp only [Act.put, List.setIfInBounds_toArray, List.set_cons_zero, List.set_cons_succ])
                          clear hz' z1 z2 z3 z4 hb
                          (refine wpAnyL_one (i := 5) (o := _) (by kernel_rfl) rfl (fun K hK => ?_); clear hHeld; simp only [List.getElem_toArray, List.getElem_cons_zero, List.getElem_cons_succ]; go_simp; refine hK.out _ _ ?_ (fun hHeld => ?_); focus (intro _; exact KQ.out _ (D.alloc D.size _))); have hHeld := hHeld (by decide); clear hK K; (try simp only [Act.put, List.setIfInBounds_toArray, List.set_cons_zero, List.set_cons_succ])
                          have H' := Blk.new w4 42 #[.bool false, .slice none 0 0, .int .i64 0]
                          have Hn : we.heap.size ≤ w4.heap.size := D.size
                          have hne : Gg ≠ w4.heap.size := Nat.ne_of_lt G.lt
                          have G := G.alloc (.cells #[.bool false, .slice none 0 0, .int .i64 0] 42)
                          have hq := hq.below (hb3 w4 (.cells #[.bool false, .slice none 0 0, .int .i64 0] 42))
                          have hr := hr.below (hb3 w4 (.cells #[.bool false, .slice none 0 0, .int .i64 0] 42))
                          have D1 : Below we.heap.size we (w4.alloc (.cells #[.bool false, .slice none 0 0, .int .i64 0] 42)) := D.alloc D.size (.cells #[.bool false, .slice none 0 0, .int .i64 0] 42)
                          clear D
                          have D := D1
                          clear D1
                          obtain ⟨w9, hw9⟩ : ∃ w9, w4.alloc (.cells #[.bool false, .slice none 0 0, .int .i64 0] 42) = w9 := ⟨_, rfl⟩
                          obtain ⟨Hg, hHg⟩ : ∃ Hg, w4.heap.size = Hg := ⟨_, rfl⟩
                          rw [hw9] at H' D G hq hr hHeld ⊢
                          rw [hHg] at H' Hn hne ⊢
                          have H := H'
                          clear H' hw9 hHg
                          have X := Lib.hid (qp_set D Gn Hn hne G H hq hr)
                          have D10 := below3q D Gn (.bool bq) (.slice Aq nq cq) (.int .i64 tq)
                          have D11 := below3q D10 Hn (.bool br') (.slice Ar nr cr) (.int .i64 tr)
                          have H1 := far3 H (hne).symm (.bool bq) (.slice Aq nq cq) (.int .i64 tq)
                          have g0 := G.at_ 0 rfl; have g1 := G.at_ 1 rfl; have g2 := G.at_ 2 rfl; have f0 := G.frozen 0; have f1 := G.frozen 1; have f2 := G.frozen 2; have h0 := H1.at_ 0 rfl; have h1 := H1.at_ 1 rfl; have h2 := H1.at_ 2 rfl; have f3 := H1.frozen 0; have f4 := H1.frozen 1; have f5 := H1.frozen 2
                          have D10 := Lib.hid D10; have D11 := Lib.hid D11
                          clear G H H1 D hq hr
                          (refine wpAnyL_one (i := 6) (o := _) (by kernel_rfl) rfl (fun K hK => ?_); clear hHeld; simp only [List.getElem_toArray, List.getElem_cons_zero, List.getElem_cons_succ]; go_simp; refine hK.out _ _ ?_ (fun hHeld => ?_); focus (intro _; exact KQ.out _ D10.out)); have hHeld := hHeld (by decide); clear hK K; (try simp only [Act.put, List.setIfInBounds_toArray, List.set_cons_zero, List.set_cons_succ])
                          (refine wpAnyL_one (i := 7) (o := _) (by kernel_rfl) rfl (fun K hK => ?_); clear hHeld; simp only [List.getElem_toArray, List.getElem_cons_zero, List.getElem_cons_succ]; go_simp; refine hK.out _ _ ?_ (fun hHeld => ?_); focus (intro _; exact KQ.out _ D11.out)); have hHeld := hHeld (by decide); clear hK K; (try simp only [Act.put, List.setIfInBounds_toArray, List.set_cons_zero, List.set_cons_succ])
                          refine wpAnyL_done (by kernel_rfl) ?_ _
                          go_wp2
                          go_meet
                          exact X.out
                      · as_aux_lemma =>
                          (clear hHeld; simp only [List.getElem_toArray, List.getElem_cons_zero, List.getElem_cons_succ]; go_simp; refine hK.out _ _ ?_ (fun hHeld => ?_); focus (intro _; exact KQ.out _ (D.alloc D.size _))); have hHeld := hHeld (by decide); clear hK K; (try simp only [Act.put, List.setIfInBounds_toArray, List.set_cons_zero, List.set_cons_succ])
                          have H' := Blk.new w8 42 #[.bool false, .slice none 0 0, .int .i64 0]
                          have Hn : we.heap.size ≤ w8.heap.size := D.size
                          have hne : Gg ≠ w8.heap.size := Nat.ne_of_lt G.lt
                          have G := G.alloc (.cells #[.bool false, .slice none 0 0, .int .i64 0] 42)
                          have hq := hq.below (hb3 w8 (.cells #[.bool false, .slice none 0 0, .int .i64 0] 42))
                          have D1 : Below we.heap.size we (w8.alloc (.cells #[.bool false, .slice none 0 0, .int .i64 0] 42)) := D.alloc D.size (.cells #[.bool false, .slice none 0 0, .int .i64 0] 42)
                          clear D
                          have D := D1
                          clear D1
                          obtain ⟨w9, hw9⟩ : ∃ w9, w8.alloc (.cells #[.bool false, .slice none 0 0, .int .i64 0] 42) = w9 := ⟨_, rfl⟩
                          obtain ⟨Hg, hHg⟩ : ∃ Hg, w8.heap.size = Hg := ⟨_, rfl⟩
                          rw [hw9] at H' D G hq hHeld ⊢
                          rw [hHg] at H' Hn hne ⊢
                          have H := H'
                          clear H' hw9 hHg
                          (refine wpAnyL_one (i := 3) (o := _) (by kernel_rfl) rfl (fun K hK => ?_); clear hHeld; simp only [List.getElem_toArray, List.getElem_cons_zero, List.getElem_cons_succ]; go_simp; (go_at_call 34; (with_reducible refine (QOd.out _ (KW.out _ D)).mono ?_); rintro e w4 ⟨br', Ar, nr, cr, tr, zr, rfl, hz', z1, z2, z3, z4, hb⟩; have hr := RetS.qs hz' z1 z2 z3 z4; have hq := hq.below hb; have D := D.trans (hb.mono D.size); have G := G.below hb G.lt; have H := H.below hb H.lt); refine hK.out _ _ ?_ (fun hHeld => ?_); focus (intro _; exact KQ.out _ D)); have hHeld := hHeld (by decide); clear hK K; (try simp only [Act.put, List.setIfInBounds_toArray, List.set_cons_zero, List.set_cons_succ])
                          clear hz' z1 z2 z3 z4 hb
                          have X := Lib.hid (qp_set D Gn Hn hne G H hq hr)
                          have D10 := below3q D Gn (.bool bq) (.slice Aq nq cq) (.int .i64 tq)
                          have D11 := below3q D10 Hn (.bool br') (.slice Ar nr cr) (.int .i64 tr)
                          have H1 := far3 H (hne).symm (.bool bq) (.slice Aq nq cq) (.int .i64 tq)
                          have g0 := G.at_ 0 rfl; have g1 := G.at_ 1 rfl; have g2 := G.at_ 2 rfl; have f0 := G.frozen 0; have f1 := G.frozen 1; have f2 := G.frozen 2; have h0 := H1.at_ 0 rfl; have h1 := H1.at_ 1 rfl; have h2 := H1.at_ 2 rfl; have f3 := H1.frozen 0; have f4 := H1.frozen 1; have f5 := H1.frozen 2
                          have D10 := Lib.hid D10; have D11 := Lib.hid D11
                          clear G H H1 D hq hr
                          (refine wpAnyL_one (i := 6) (o := _) (by kernel_rfl) rfl (fun K hK => ?_); clear hHeld; simp only [List.getElem_toArray, List.getElem_cons_zero, List.getElem_cons_succ]; go_simp; refine hK.out _ _ ?_ (fun hHeld => ?_); focus (intro _; exact KQ.out _ D10.out)); have hHeld := hHeld (by decide); clear hK K; (try simp only [Act.put, List.setIfInBounds_toArray, List.set_cons_zero, List.set_cons_succ])
                          (refine wpAnyL_one (i := 7) (o := _) (by kernel_rfl) rfl (fun K hK => ?_); clear hHeld; simp only [List.getElem_toArray, List.getElem_cons_zero, List.getElem_cons_succ]; go_simp; refine hK.out _ _ ?_ (fun hHeld => ?_); focus (intro _; exact KQ.out _ D11.out)); have hHeld := hHeld (by decide); clear hK K; (try simp only [Act.put, List.setIfInBounds_toArray, List.set_cons_zero, List.set_cons_succ])
                          refine wpAnyL_done (by kernel_rfl) ?_ _
                          go_wp2
                          go_meet
                          exact X.out
                  · as_aux_lemma =>
                      (clear hHeld; simp only [List.getElem_toArray, List.getElem_cons_zero, List.getElem_cons_succ]; go_simp; refine hK.out _ _ ?_ (fun hHeld => ?_); focus (intro _; exact KQ.out _ (D.alloc D.size _))); have hHeld := hHeld (by decide); clear hK K; (try simp only [Act.put, List.setIfInBounds_toArray, List.set_cons_zero, List.set_cons_succ])
                      have H' := Blk.new w3 42 #[.bool false, .slice none 0 0, .int .i64 0]
                      have Hn : we.heap.size ≤ w3.heap.size := D.size
                      have hq := hq.below (hb3 w3 (.cells #[.bool false, .slice none 0 0, .int .i64 0] 42))
                      have D1 : Below we.heap.size we (w3.alloc (.cells #[.bool false, .slice none 0 0, .int .i64 0] 42)) := D.alloc D.size (.cells #[.bool false, .slice none 0 0, .int .i64 0] 42)
                      clear D
                      have D := D1
                      clear D1
                      obtain ⟨w9, hw9⟩ : ∃ w9, w3.alloc (.cells #[.bool false, .slice none 0 0, .int .i64 0] 42) = w9 := ⟨_, rfl⟩
                      obtain ⟨Hg, hHg⟩ : ∃ Hg, w3.heap.size = Hg := ⟨_, rfl⟩
                      rw [hw9] at H' D hq hHeld ⊢
                      rw [hHg] at H' Hn ⊢
                      have H := H'
                      clear H' hw9 hHg
                      refine wpAnyL_two (i := 3) (j := 4) (oi := _) (oj := _) (by kernel_rfl) rfl rfl (fun K hK => ?_) (fun K hK => ?_)
                      · as_aux_lemma =>
                          (clear hHeld; simp only [List.getElem_toArray, List.getElem_cons_zero, List.getElem_cons_succ]; go_simp; (go_at_call 34; (with_reducible refine (QOd.out _ (KW.out _ D)).mono ?_); rintro e w4 ⟨br', Ar, nr, cr, tr, zr, rfl, hz', z1, z2, z3, z4, hb⟩; have hr := RetS.qs hz' z1 z2 z3 z4; have hq := hq.below hb; have D := D.trans (hb.mono D.size); have H := H.below hb H.lt); refine hK.out _ _ ?_ (fun hHeld => ?_); focus (intro _; exact KQ.out _ D)); have hHeld := hHeld (by decide); clear hK K; (try simp only [Act.put, List.setIfInBounds_toArray, List.set_cons_zero, List.set_cons_succ])
                          clear hz' z1 z2 z3 z4 hb
                          (refine wpAnyL_one (i := 4) (o := _) (by kernel_rfl) rfl (fun K hK => ?_); clear hHeld; simp only [List.getElem_toArray, List.getElem_cons_zero, List.getElem_cons_succ]; go_simp; refine hK.out _ _ ?_ (fun hHeld => ?_); focus (intro _; exact KQ.out _ (D.alloc D.size _))); have hHeld := hHeld (by decide); clear hK K; (try simp only [Act.put, List.setIfInBounds_toArray, List.set_cons_zero, List.set_cons_succ])
                          have G' := Blk.new w4 42 #[.bool false, .slice none 0 0, .int .i64 0]
                          have Gn : we.heap.size ≤ w4.heap.size := D.size
                          have hne : Hg ≠ w4.heap.size := Nat.ne_of_lt H.lt
                          have H := H.alloc (.cells #[.bool false, .slice none 0 0, .int .i64 0] 42)
                          have hq := hq.below (hb3 w4 (.cells #[.bool false, .slice none 0 0, .int .i64 0] 42))
                          have hr := hr.below (hb3 w4 (.cells #[.bool false, .slice none 0 0, .int .i64 0] 42))
                          have D1 : Below we.heap.size we (w4.alloc (.cells #[.bool false, .slice none 0 0, .int .i64 0] 42)) := D.alloc D.size (.cells #[.bool false, .slice none 0 0, .int .i64 0] 42)
                          clear D
                          have D := D1
                          clear D1
                          obtain ⟨w8, hw8⟩ : ∃ w8, w4.alloc (.cells #[.bool false, .slice none 0 0, .int .i64 0] 42) = w8 := ⟨_, rfl⟩
                          obtain ⟨Gg, hGg⟩ : ∃ Gg, w4.heap.size = Gg := ⟨_, rfl⟩
                          rw [hw8] at G' D H hq hr hHeld ⊢
                          rw [hGg] at G' Gn hne ⊢
                          have G := G'
                          clear G' hw8 hGg
                          have X := Lib.hid (qp_set D Gn Hn hne.symm G H hq hr)
                          have D10 := below3q D Gn (.bool bq) (.slice Aq nq cq) (.int .i64 tq)
                          have D11 := below3q D10 Hn (.bool br') (.slice Ar nr cr) (.int .i64 tr)
                          have H1 := far3 H (hne.symm).symm (.bool bq) (.slice Aq nq cq) (.int .i64 tq)
                          have g0 := G.at_ 0 rfl; have g1 := G.at_ 1 rfl; have g2 := G.at_ 2 rfl; have f0 := G.frozen 0; have f1 := G.frozen 1; have f2 := G.frozen 2; have h0 := H1.at_ 0 rfl; have h1 := H1.at_ 1 rfl; have h2 := H1.at_ 2 rfl; have f3 := H1.frozen 0; have f4 := H1.frozen 1; have f5 := H1.frozen 2
                          have D10 := Lib.hid D10; have D11 := Lib.hid D11
                          clear G H H1 D hq hr
                          (refine wpAnyL_one (i := 6) (o := _) (by kernel_rfl) rfl (fun K hK => ?_); clear hHeld; simp only [List.getElem_toArray, List.getElem_cons_zero, List.getElem_cons_succ]; go_simp; refine hK.out _ _ ?_ (fun hHeld => ?_); focus (intro _; exact KQ.out _ D10.out)); have hHeld := hHeld (by decide); clear hK K; (try simp only [Act.put, List.setIfInBounds_toArray, List.set_cons_zero, List.set_cons_succ])
                          (refine wpAnyL_one (i := 7) (o := _) (by kernel_rfl) rfl (fun K hK => ?_); clear hHeld; simp only [List.getElem_toArray, List.getElem_cons_zero, List.getElem_cons_succ]; go_simp; refine hK.out _ _ ?_ (fun hHeld => ?_); focus (intro _; exact KQ.out _ D11.out)); have hHeld := hHeld (by decide); clear hK K; (try simp only [Act.put, List.setIfInBounds_toArray, List.set_cons_zero, List.set_cons_succ])
                          refine wpAnyL_done (by kernel_rfl) ?_ _
                          go_wp2
                          go_meet
                          exact X.out
                      · as_aux_lemma =>
                          (clear hHeld; simp only [List.getElem_toArray, List.getElem_cons_zero, List.getElem_cons_succ]; go_simp; refine hK.out _ _ ?_ (fun hHeld => ?_); focus (intro _; exact KQ.out _ (D.alloc D.size _))); have hHeld := hHeld (by decide); clear hK K; (try simp only [Act.put, List.setIfInBounds_toArray, List.set_cons_zero, List.set_cons_succ])
                          have G' := Blk.new w9 42 #[.bool false, .slice none 0 0, .int .i64 0]
                          have Gn : we.heap.size ≤ w9.heap.size := D.size
                          have hne : Hg ≠ w9.heap.size := Nat.ne_of_lt H.lt
                          have H := H.alloc (.cells #[.bool false, .slice none 0 0, .int .i64 0] 42)
                          have hq := hq.below (hb3 w9 (.cells #[.bool false, .slice none 0 0, .int .i64 0] 42))
                          have D1 : Below we.heap.size we (w9.alloc (.cells #[.bool false, .slice none 0 0, .int .i64 0] 42)) := D.alloc D.size (.cells #[.bool false, .slice none 0 0, .int .i64 0] 42)
                          clear D
                          have D := D1
                          clear D1
                          obtain ⟨w8, hw8⟩ : ∃ w8, w9.alloc (.cells #[.bool false, .slice none 0 0, .int .i64 0] 42) = w8 := ⟨_, rfl⟩
                          obtain ⟨Gg, hGg⟩ : ∃ Gg, w9.heap.size = Gg := ⟨_, rfl⟩
                          rw [hw8] at G' D H hq hHeld ⊢
                          rw [hGg] at G' Gn hne ⊢
                          have G := G'
                          clear G' hw8 hGg
                          (refine wpAnyL_one (i := 3) (o := _) (by kernel_rfl) rfl (fun K hK => ?_); clear hHeld; simp only [List.getElem_toArray, List.getElem_cons_zero, List.getElem_cons_succ]; go_simp; (go_at_call 34; (with_reducible refine (QOd.out _ (KW.out _ D)).mono ?_); rintro e w4 ⟨br', Ar, nr, cr, tr, zr, rfl, hz', z1, z2, z3, z4, hb⟩; have hr := RetS.qs hz' z1 z2 z3 z4; have hq := hq.below hb; have D := D.trans (hb.mono D.size); have G := G.below hb G.lt; have H := H.below hb H.lt); refine hK.out _ _ ?_ (fun hHeld => ?_); focus (intro _; exact KQ.out _ D)); have hHeld := hHeld (by decide); clear hK K; (try simp only [Act.put, List.setIfInBounds_toArray, List.set_cons_zero, List.set_cons_succ])
                          clear hz' z1 z2 z3 z4 hb
                          have X := Lib.hid (qp_set D Gn Hn hne.symm G H hq hr)
                          have D10 := below3q D Gn (.bool bq) (.slice Aq nq cq) (.int .i64 tq)
                          have D11 := below3q D10 Hn (.bool br') (.slice Ar nr cr) (.int .i64 tr)
                          have H1 := far3 H (hne.symm).symm (.bool bq) (.slice Aq nq cq) (.int .i64 tq)
                          have g0 := G.at_ 0 rfl; have g1 := G.at_ 1 rfl; have g2 := G.at_ 2 rfl; have f0 := G.frozen 0; have f1 := G.frozen 1; have f2 := G.frozen 2; have h0 := H1.at_ 0 rfl; have h1 := H1.at_ 1 rfl; have h2 := H1.at_ 2 rfl; have f3 := H1.frozen 0; have f4 := H1.frozen 1; have f5 := H1.frozen 2
                          have D10 := Lib.hid D10; have D11 := Lib.hid D11
                          clear G H H1 D hq hr
                          (refine wpAnyL_one (i := 6) (o := _) (by kernel_rfl) rfl (fun K hK => ?_); clear hHeld; simp only [List.getElem_toArray, List.getElem_cons_zero, List.getElem_cons_succ]; go_simp; refine hK.out _ _ ?_ (fun hHeld => ?_); focus (intro _; exact KQ.out _ D10.out)); have hHeld := hHeld (by decide); clear hK K; (try simp only [Act.put, List.setIfInBounds_toArray, List.set_cons_zero, List.set_cons_succ])
                          (refine wpAnyL_one (i := 7) (o := _) (by kernel_rfl) rfl (fun K hK => ?_); clear hHeld; simp only [List.getElem_toArray, List.getElem_cons_zero, List.getElem_cons_succ]; go_simp; refine hK.out _ _ ?_ (fun hHeld => ?_); focus (intro _; exact KQ.out _ D11.out)); have hHeld := hHeld (by decide); clear hK K; (try simp only [Act.put, List.setIfInBounds_toArray, List.set_cons_zero, List.set_cons_succ])
                          refine wpAnyL_done (by kernel_rfl) ?_ _
                          go_wp2
                          go_meet
                          exact X.out
              · as_aux_lemma =>
                  (clear hHeld; simp only [List.getElem_toArray, List.getElem_cons_zero, List.getElem_cons_succ]; go_simp; refine hK.out _ _ ?_ (fun hHeld => ?_); focus (intro _; exact KQ.out _ (D.alloc D.size _))); have hHeld := hHeld (by decide); clear hK K; (try simp only [Act.put, List.setIfInBounds_toArray, List.set_cons_zero, List.set_cons_succ])
                  have G' := Blk.drew (Blk.new we0 42 #[.bool false, .slice none 0 0, .int .i64 0])
                  have Gn : we.heap.size ≤ we0.heap.size := D.size
                  have D1 : Below we.heap.size we ((we0.alloc (.cells #[.bool false, .slice none 0 0, .int .i64 0] 42)).drew) := D.alloc D.size (.cells #[.bool false, .slice none 0 0, .int .i64 0] 42)
                  clear D
                  have D := D1
                  clear D1
                  obtain ⟨w8, hw8⟩ : ∃ w8, (we0.alloc (.cells #[.bool false, .slice none 0 0, .int .i64 0] 42)).drew = w8 := ⟨_, rfl⟩
                  obtain ⟨Gg, hGg⟩ : ∃ Gg, we0.heap.size = Gg := ⟨_, rfl⟩
                  rw [hw8] at G' D hHeld ⊢
                  rw [hGg] at G' Gn ⊢
                  have G := G'
                  clear G' hw8 hGg
                  refine wpAnyL_two (i := 1) (j := 5) (oi := _) (oj := _) (by kernel_rfl) rfl rfl (fun K hK => ?_) (fun K hK => ?_)
                  · as_aux_lemma =>
                      (clear hHeld; simp only [List.getElem_toArray, List.getElem_cons_zero, List.getElem_cons_succ]; go_simp; (go_at_call 34; (with_reducible refine (QOc.out _ (KW.out _ D)).mono ?_); rintro e w3 ⟨bq, Aq, nq, cq, tq, zq, rfl, hz, y1, y2, y3, y4, hb⟩; have hq := RetS.qs hz y1 y2 y3 y4; have D := D.trans (hb.mono D.size); have G := G.below hb G.lt); refine hK.out _ _ ?_ (fun hHeld => ?_); focus (intro _; exact KQ.out _ D)); have hHeld := hHeld (by decide); clear hK K; (try simp only [Act.put, List.setIfInBounds_toArray, List.set_cons_zero, List.set_cons_succ])
                      clear hz y1 y2 y3 y4 hb
                      refine wpAnyL_two (i := 3) (j := 5) (oi := _) (oj := _) (by kernel_rfl) rfl rfl (fun K hK => ?_) (fun K hK => ?_)
                      · as_aux_lemma =>
                          (clear hHeld; simp only [List.getElem_toArray, List.getElem_cons_zero, List.getElem_cons_succ]; go_simp; (go_at_call 34; (with_reducible refine (QOd.out _ (KW.out _ D)).mono ?_); rintro e w4 ⟨br', Ar, nr, cr, tr, zr, rfl, hz', z1, z2, z3, z4, hb⟩; have hr := RetS.qs hz' z1 z2 z3 z4; have hq := hq.below hb; have D := D.trans (hb.mono D.size); have G := G.below hb G.lt); refine hK.out _ _ ?_ (fun hHeld => ?_); focus (intro _; exact KQ.out _ D)); have hHeld := hHeld (by decide); clear hK K; (try simp only [Act.put, List.setIfInBounds_toArray, List.set_cons_zero, List.set_cons_succ])
                          clear hz' z1 z2 z3 z4 hb
                          (refine wpAnyL_one (i := 5) (o := _) (by kernel_rfl) rfl (fun K hK => ?_); clear hHeld; simp only [List.getElem_toArray, List.getElem_cons_zero, List.getElem_cons_succ]; go_simp; refine hK.out _ _ ?_ (fun hHeld => ?_); focus (intro _; exact KQ.out _ (D.alloc D.size _))); have hHeld := hHeld (by decide); clear hK K; (try simp only [Act.put, List.setIfInBounds_toArray, List.set_cons_zero, List.set_cons_succ])
                          have H' := Blk.new w4 42 #[.bool false, .slice none 0 0, .int .i64 0]
                          have Hn : we.heap.size ≤ w4.heap.size := D.size
                          have hne : Gg ≠ w4.heap.size := Nat.ne_of_lt G.lt
                          have G := G.alloc (.cells #[.bool false, .slice none 0 0, .int .i64 0] 42)
                          have hq := hq.below (hb3 w4 (.cells #[.bool false, .slice none 0 0, .int .i64 0] 42))
                          have hr := hr.below (hb3 w4 (.cells #[.bool false, .slice none 0 0, .int .i64 0] 42))
                          have D1 : Below we.heap.size we (w4.alloc (.cells #[.bool false, .slice none 0 0, .int .i64 0] 42)) := D.alloc D.size (.cells #[.bool false, .slice none 0 0, .int .i64 0] 42)
                          clear D
                          have D := D1
                          clear D1
                          obtain ⟨w9, hw9⟩ : ∃ w9, w4.alloc (.cells #[.bool false, .slice none 0 0, .int .i64 0] 42) = w9 := ⟨_, rfl⟩
                          obtain ⟨Hg, hHg⟩ : ∃ Hg, w4.heap.size = Hg := ⟨_, rfl⟩
                          rw [hw9] at H' D G hq hr hHeld ⊢
                          rw [hHg] at H' Hn hne ⊢
                          have H := H'
                          clear H' hw9 hHg
                          have X := Lib.hid (qp_set D Gn Hn hne G H hq hr)
                          have D10 := below3q D Gn (.bool bq) (.slice Aq nq cq) (.int .i64 tq)
                          have D11 := below3q D10 Hn (.bool br') (.slice Ar nr cr) (.int .i64 tr)
                          have H1 := far3 H (hne).symm (.bool bq) (.slice Aq nq cq) (.int .i64 tq)
                          have g0 := G.at_ 0 rfl; have g1 := G.at_ 1 rfl; have g2 := G.at_ 2 rfl; have f0 := G.frozen 0; have f1 := G.frozen 1; have f2 := G.frozen 2; have h0 := H1.at_ 0 rfl; have h1 := H1.at_ 1 rfl; have h2 := H1.at_ 2 rfl; have f3 := H1.frozen 0; have f4 := H1.frozen 1; have f5 := H1.frozen 2
                          have D10 := Lib.hid D10; have D11 := Lib.hid D11
                          clear G H H1 D hq hr
                          (refine wpAnyL_one (i := 6) (o := _) (by kernel_rfl) rfl (fun K hK => ?_); clear hHeld; simp only [List.getElem_toArray, List.getElem_cons_zero, List.getElem_cons_succ]; go_simp; refine hK.out _ _ ?_ (fun hHeld => ?_); focus (intro _; exact KQ.out _ D10.out)); have hHeld := hHeld (by decide); clear hK K; (try simp only [Act.put, List.setIfInBounds_toArray, List.set_cons_zero, List.set_cons_succ])
                          (refine wpAnyL_one (i := 7) (o := _) (by kernel_rfl) rfl (fun K hK => ?_); clear hHeld; simp only [List.getElem_toArray, List.getElem_cons_zero, List.getElem_cons_succ]; go_simp; refine hK.out _ _ ?_ (fun hHeld => ?_); focus (intro _; exact KQ.out _ D11.out)); have hHeld := hHeld (by decide); clear hK K; (try simp only [Act.put, List.setIfInBounds_toArray, List.set_cons_zero, List.set_cons_succ])
                          refine wpAnyL_done (by kernel_rfl) ?_ _
                          go_wp2
                          go_meet
                          exact X.out
                      · as_aux_lemma =>
                          (clear hHeld; simp only [List.getElem_toArray, List.getElem_cons_zero, List.getElem_cons_succ]; go_simp; refine hK.out _ _ ?_ (fun hHeld => ?_); focus (intro _; exact KQ.out _ (D.alloc D.size _))); have hHeld := hHeld (by decide); clear hK K; (try simp only [Act.put, List.setIfInBounds_toArray, List.set_cons_zero, List.set_cons_succ])
                          have H' := Blk.new w3 42 #[.bool false, .slice none 0 0, .int .i64 0]
                          have Hn : we.heap.size ≤ w3.heap.size := D.size
                          have hne : Gg ≠ w3.heap.size := Nat.ne_of_lt G.lt
                          have G := G.alloc (.cells #[.bool false, .slice none 0 0, .int .i64 0] 42)
                          have hq := hq.below (hb3 w3 (.cells #[.bool false, .slice none 0 0, .int .i64 0] 42))
                          have D1 : Below we.heap.size we (w3.alloc (.cells #[.bool false, .slice none 0 0, .int .i64 0] 42)) := D.alloc D.size (.cells #[.bool false, .slice none 0 0, .int .i64 0] 42)
                          clear D
                          have D := D1
                          clear D1
                          obtain ⟨w9, hw9⟩ : ∃ w9, w3.alloc (.cells #[.bool false, .slice none 0 0, .int .i64 0] 42) = w9 := ⟨_, rfl⟩
                          obtain ⟨Hg, hHg⟩ : ∃ Hg, w3.heap.size = Hg := ⟨_, rfl⟩
                          rw [hw9] at H' D G hq hHeld ⊢
                          rw [hHg] at H' Hn hne ⊢
                          have H := H'
                          clear H' hw9 hHg
                          (refine wpAnyL_one (i := 3) (o := _) (by kernel_rfl) rfl (fun K hK => ?_); clear hHeld; simp only [List.getElem_toArray, List.getElem_cons_zero, List.getElem_cons_succ]; go_simp; (go_at_call 34; (with_reducible refine (QOd.out _ (KW.out _ D)).mono ?_); rintro e w4 ⟨br', Ar, nr, cr, tr, zr, rfl, hz', z1, z2, z3, z4, hb⟩; have hr := RetS.qs hz' z1 z2 z3 z4; have hq := hq.below hb; have D := D.trans (hb.mono D.size); have G := G.below hb G.lt; have H := H.below hb H.lt); refine hK.out _ _ ?_ (fun hHeld => ?_); focus (intro _; exact KQ.out _ D)); have hHeld := hHeld (by decide); clear hK K; (try simp only [Act.put, List.setIfInBounds_toArray, List.set_cons_zero, List.set_cons_succ])
                          clear hz' z1 z2 z3 z4 hb
                          have X := Lib.hid (qp_set D Gn Hn hne G H hq hr)
                          have D10 := below3q D Gn (.bool bq) (.slice Aq nq cq) (.int .i64 tq)
                          have D11 := below3q D10 Hn (.bool br') (.slice Ar nr cr) (.int .i64 tr)
                          have H1 := far3 H (hne).symm (.bool bq) (.slice Aq nq cq) (.int .i64 tq)
                          have g0 := G.at_ 0 rfl; have g1 := G.at_ 1 rfl; have g2 := G.at_ 2 rfl; have f0 := G.frozen 0; have f1 := G.frozen 1; have f2 := G.frozen 2; have h0 := H1.at_ 0 rfl; have h1 := H1.at_ 1 rfl; have h2 := H1.at_ 2 rfl; have f3 := H1.frozen 0; have f4 := H1.frozen 1; have f5 := H1.frozen 2
                          have D10 := Lib.hid D10; have D11 := Lib.hid D11
                          clear G H H1 D hq hr
                          (refine wpAnyL_one (i := 6) (o := _) (by kernel_rfl) rfl (fun K hK => ?_); clear hHeld; simp only [List.getElem_toArray, List.getElem_cons_zero, List.getElem_cons_succ]; go_simp; refine hK.out _ _ ?_ (fun hHeld => ?_); focus (intro _; exact KQ.out _ D10.out)); have hHeld := hHeld (by decide); clear hK K; (try simp only [Act.put, List.setIfInBounds_toArray, List.set_cons_zero, List.set_cons_succ])
                          (refine wpAnyL_one (i := 7) (o := _) (by kernel_rfl) rfl (fun K hK => ?_); clear hHeld; simp only [List.getElem_toArray, List.getElem_cons_zero, List.getElem_cons_succ]; go_simp; refine hK.out _ _ ?_ (fun hHeld => ?_); focus (intro _; exact KQ.out _ D11.out)); have hHeld := hHeld (by decide); clear hK K; (try simp only [Act.put, List.setIfInBounds_toArray, List.set_cons_zero, List.set_cons_succ])
                          refine wpAnyL_done (by kernel_rfl) ?_ _
                          go_wp2
                          go_meet
                          exact X.out
                  · as_aux_lemma =>
                      (clear hHeld; simp only [List.getElem_toArray, List.getElem_cons_zero, List.getElem_cons_succ]; go_simp; refine hK.out _ _ ?_ (fun hHeld => ?_); focus (intro _; exact KQ.out _ (D.alloc D.size _))); have hHeld := hHeld (by decide); clear hK K; (try simp only [Act.put, List.setIfInBounds_toArray, List.set_cons_zero, List.set_cons_succ])
                      have H' := Blk.new w8 42 #[.bool false, .slice none 0 0, .int .i64 0]
                      have Hn : we.heap.size ≤ w8.heap.size := D.size
                      have hne : Gg ≠ w8.heap.size := Nat.ne_of_lt G.lt
                      have G := G.alloc (.cells #[.bool false, .slice none 0 0, .int .i64 0] 42)
                      have D1 : Below we.heap.size we (w8.alloc (.cells #[.bool false, .slice none 0 0, .int .i64 0] 42)) := D.alloc D.size (.cells #[.bool false, .slice none 0 0, .int .i64 0] 42)
                      clear D
                      have D := D1
                      clear D1
                      obtain ⟨w9, hw9⟩ : ∃ w9, w8.alloc (.cells #[.bool false, .slice none 0 0, .int .i64 0] 42) = w9 := ⟨_, rfl⟩
                      obtain ⟨Hg, hHg⟩ : ∃ Hg, w8.heap.size = Hg := ⟨_, rfl⟩
                      rw [hw9] at H' D G hHeld ⊢
                      rw [hHg] at H' Hn hne ⊢
                      have H := H'
                      clear H' hw9 hHg
                      (refine wpAnyL_one (i := 1) (o := _) (by kernel_rfl) rfl (fun K hK => ?_); clear hHeld; simp only [List.getElem_toArray, List.getElem_cons_zero, List.getElem_cons_succ]; go_simp; (go_at_call 34; (with_reducible refine (QOc.out _ (KW.out _ D)).mono ?_); rintro e w3 ⟨bq, Aq, nq, cq, tq, zq, rfl, hz, y1, y2, y3, y4, hb⟩; have hq := RetS.qs hz y1 y2 y3 y4; have D := D.trans (hb.mono D.size); have G := G.below hb G.lt; have H := H.below hb H.lt); refine hK.out _ _ ?_ (fun hHeld => ?_); focus (intro _; exact KQ.out _ D)); have hHeld := hHeld (by decide); clear hK K; (try simp only [Act.put, List.setIfInBounds_toArray, List.set_cons_zero, List.set_cons_succ])
                      clear hz y1 y2 y3 y4 hb
                      (refine wpAnyL_one (i := 3) (o := _) (by kernel_rfl) rfl (fun K hK => ?_); clear hHeld; simp only [List.getElem_toArray, List.getElem_cons_zero, List.getElem_cons_succ]; go_simp; (go_at_call 34; (with_reducible refine (QOd.out _ (KW.out _ D)).mono ?_); rintro e w4 ⟨br', Ar, nr, cr, tr, zr, rfl, hz', z1, z2, z3, z4, hb⟩; have hr := RetS.qs hz' z1 z2 z3 z4; have hq := hq.below hb; have D := D.trans (hb.mono D.size); have G := G.below hb G.lt; have H := H.below hb H.lt); refine hK.out _ _ ?_ (fun hHeld => ?_); focus (intro _; exact KQ.out _ D)); have hHeld := hHeld (by decide); clear hK K; (try simp only [Act.put, List.setIfInBounds_toArray, List.set_cons_zero, List.set_cons_succ])
                      clear hz' z1 z2 z3 z4 hb
                      have X := Lib.hid (qp_set D Gn Hn hne G H hq hr)
                      have D10 := below3q D Gn (.bool bq) (.slice Aq nq cq) (.int .i64 tq)
                      have D11 := below3q D10 Hn (.bool br') (.slice Ar nr cr) (.int .i64 tr)
                      have H1 := far3 H (hne).symm (.bool bq) (.slice Aq nq cq) (.int .i64 tq)
                      have g0 := G.at_ 0 rfl; have g1 := G.at_ 1 rfl; have g2 := G.at_ 2 rfl; have f0 := G.frozen 0; have f1 := G.frozen 1; have f2 := G.frozen 2; have h0 := H1.at_ 0 rfl; have h1 := H1.at_ 1 rfl; have h2 := H1.at_ 2 rfl; have f3 := H1.frozen 0; have f4 := H1.frozen 1; have f5 := H1.frozen 2
                      have D10 := Lib.hid D10; have D11 := Lib.hid D11
                      clear G H H1 D hq hr
                      (refine wpAnyL_one (i := 6) (o := _) (by kernel_rfl) rfl (fun K hK => ?_); clear hHeld; simp only [List.getElem_toArray, List.getElem_cons_zero, List.getElem_cons_succ]; go_simp; refine hK.out _ _ ?_ (fun hHeld => ?_); focus (intro _; exact KQ.out _ D10.out)); have hHeld := hHeld (by decide); clear hK K; (try simp only [Act.put, List.setIfInBounds_toArray, List.set_cons_zero, List.set_cons_succ])
                      (refine wpAnyL_one (i := 7) (o := _) (by kernel_rfl) rfl (fun K hK => ?_); clear hHeld; simp only [List.getElem_toArray, List.getElem_cons_zero, List.getElem_cons_succ]; go_simp; refine hK.out _ _ ?_ (fun hHeld => ?_); focus (intro _; exact KQ.out _ D11.out)); have hHeld := hHeld (by decide); clear hK K; (try simp only [Act.put, List.setIfInBounds_toArray, List.set_cons_zero, List.set_cons_succ])
                      refine wpAnyL_done (by kernel_rfl) ?_ _
                      go_wp2
                      go_meet
                      exact X.out
              · as_aux_lemma =>
                  (clear hHeld; simp only [List.getElem_toArray, List.getElem_cons_zero, List.getElem_cons_succ]; go_simp; refine hK.out _ _ ?_ (fun hHeld => ?_); focus (intro _; exact KQ.out _ (D.alloc D.size _))); have hHeld := hHeld (by decide); clear hK K; (try simp only [Act.put, List.setIfInBounds_toArray, List.set_cons_zero, List.set_cons_succ])
                  have H' := Blk.drew (Blk.new we0 42 #[.bool false, .slice none 0 0, .int .i64 0])
                  have Hn : we.heap.size ≤ we0.heap.size := D.size
                  have D1 : Below we.heap.size we ((we0.alloc (.cells #[.bool false, .slice none 0 0, .int .i64 0] 42)).drew) := D.alloc D.size (.cells #[.bool false, .slice none 0 0, .int .i64 0] 42)
                  clear D
                  have D := D1
                  clear D1
                  obtain ⟨w9, hw9⟩ : ∃ w9, (we0.alloc (.cells #[.bool false, .slice none 0 0, .int .i64 0] 42)).drew = w9 := ⟨_, rfl⟩
                  obtain ⟨Hg, hHg⟩ : ∃ Hg, we0.heap.size = Hg := ⟨_, rfl⟩
                  rw [hw9] at H' D hHeld ⊢
                  rw [hHg] at H' Hn ⊢
                  have H := H'
                  clear H' hw9 hHg
                  refine wpAnyL_two (i := 1) (j := 4) (oi := _) (oj := _) (by kernel_rfl) rfl rfl (fun K hK => ?_) (fun K hK => ?_)
                  · as_aux_lemma =>
                      (clear hHeld; simp only [List.getElem_toArray, List.getElem_cons_zero, List.getElem_cons_succ]; go_simp; (go_at_call 34; (with_reducible refine (QOc.out _ (KW.out _ D)).mono ?_); rintro e w3 ⟨bq, Aq, nq, cq, tq, zq, rfl, hz, y1, y2, y3, y4, hb⟩; have hq := RetS.qs hz y1 y2 y3 y4; have D := D.trans (hb.mono D.size); have H := H.below hb H.lt); refine hK.out _ _ ?_ (fun hHeld => ?_); focus (intro _; exact KQ.out _ D)); have hHeld := hHeld (by decide); clear hK K; (try simp only [Act.put, List.setIfInBounds_toArray, List.set_cons_zero, List.set_cons_succ])
                      clear hz y1 y2 y3 y4 hb
                      refine wpAnyL_two (i := 3) (j := 4) (oi := _) (oj := _) (by kernel_rfl) rfl rfl (fun K hK => ?_) (fun K hK => ?_)
                      · as_aux_lemma =>
                          (clear hHeld; simp only [List.getElem_toArray, List.getElem_cons_zero, List.getElem_cons_succ]; go_simp; (go_at_call 34; (with_reducible refine (QOd.out _ (KW.out _ D)).mono ?_); rintro e w4 ⟨br', Ar, nr, cr, tr, zr, rfl, hz', z1, z2, z3, z4, hb⟩; have hr := RetS.qs hz' z1 z2 z3 z4; have hq := hq.below hb; have D := D.trans (hb.mono D.size); have H := H.below hb H.lt); refine hK.out _ _ ?_ (fun hHeld => ?_); focus (intro _; exact KQ.out _ D)); have hHeld := hHeld (by decide); clear hK K; (try simp only [Act.put, List.setIfInBounds_toArray, List.set_cons_zero, List.set_cons_succ])
                          clear hz' z1 z2 z3 z4 hb
                          (refine wpAnyL_one (i := 4) (o := _) (by kernel_rfl) rfl (fun K hK => ?_); clear hHeld; simp only [List.getElem_toArray, List.getElem_cons_zero, List.getElem_cons_succ]; go_simp; refine hK.out _ _ ?_ (fun hHeld => ?_); focus (intro _; exact KQ.out _ (D.alloc D.size _))); have hHeld := hHeld (by decide); clear hK K; (try simp only [Act.put, List.setIfInBounds_toArray, List.set_cons_zero, List.set_cons_succ])
                          have G' := Blk.new w4 42 #[.bool false, .slice none 0 0, .int .i64 0]
                          have Gn : we.heap.size ≤ w4.heap.size := D.size
                          have hne : Hg ≠ w4.heap.size := Nat.ne_of_lt H.lt
                          have H := H.alloc (.cells #[.bool false, .slice none 0 0, .int .i64 0] 42)
                          have hq := hq.below (hb3 w4 (.cells #[.bool false, .slice none 0 0, .int .i64 0] 42))
                          have hr := hr.below (hb3 w4 (.cells #[.bool false, .slice none 0 0, .int .i64 0] 42))
                          have D1 : Below we.heap.size we (w4.alloc (.cells #[.bool false, .slice none 0 0, .int .i64 0] 42)) := D.alloc D.size (.cells #[.bool false, .slice none 0 0, .int .i64 0] 42)
                          clear D
                          have D := D1
                          clear D1
                          obtain ⟨w8, hw8⟩ : ∃ w8, w4.alloc (.cells #[.bool false, .slice none 0 0, .int .i64 0] 42) = w8 := ⟨_, rfl⟩
                          obtain ⟨Gg, hGg⟩ : ∃ Gg, w4.heap.size = Gg := ⟨_, rfl⟩
                          rw [hw8] at G' D H hq hr hHeld ⊢
                          rw [hGg] at G' Gn hne ⊢
                          have G := G'
                          clear G' hw8 hGg
                          have X := Lib.hid (qp_set D Gn Hn hne.symm G H hq hr)
                          have D10 := below3q D Gn (.bool bq) (.slice Aq nq cq) (.int .i64 tq)
                          have D11 := below3q D10 Hn (.bool br') (.slice Ar nr cr) (.int .i64 tr)
                          have H1 := far3 H (hne.symm).symm (.bool bq) (.slice Aq nq cq) (.int .i64 tq)
                          have g0 := G.at_ 0 rfl; have g1 := G.at_ 1 rfl; have g2 := G.at_ 2 rfl; have f0 := G.frozen 0; have f1 := G.frozen 1; have f2 := G.frozen 2; have h0 := H1.at_ 0 rfl; have h1 := H1.at_ 1 rfl; have h2 := H1.at_ 2 rfl; have f3 := H1.frozen 0; have f4 := H1.frozen 1; have f5 := H1.frozen 2
                          have D10 := Lib.hid D10; have D11 := Lib.hid D11
                          clear G H H1 D hq hr
                          (refine wpAnyL_one (i := 6) (o := _) (by kernel_rfl) rfl (fun K hK => ?_); clear hHeld; simp only [List.getElem_toArray, List.getElem_cons_zero, List.getElem_cons_succ]; go_simp; refine hK.out _ _ ?_ (fun hHeld => ?_); focus (intro _; exact KQ.out _ D10.out)); have hHeld := hHeld (by decide); clear hK K; (try simp only [Act.put, List.setIfInBounds_toArray, List.set_cons_zero, List.set_cons_succ])
                          (refine wpAnyL_one (i := 7) (o := _) (by kernel_rfl) rfl (fun K hK => ?_); clear hHeld; simp only [List.getElem_toArray, List.getElem_cons_zero, List.getElem_cons_succ]; go_simp; refine hK.out _ _ ?_ (fun hHeld => ?_); focus (intro _; exact KQ.out _ D11.out)); have hHeld := hHeld (by decide); clear hK K; (try simp only [Act.put, List.setIfInBounds_toArray, List.set_cons_zero, List.set_cons_succ])
                          refine wpAnyL_done (by kernel_rfl) ?_ _
                          go_wp2
                          go_meet
                          exact X.out
                      · as_aux_lemma =>
                          (clear hHeld; simp only [List.getElem_toArray, List.getElem_cons_zero, List.getElem_cons_succ]; go_simp; refine hK.out _ _ ?_ (fun hHeld => ?_); focus (intro _; exact KQ.out _ (D.alloc D.size _))); have hHeld := hHeld (by decide); clear hK K; (try simp only [Act.put, List.setIfInBounds_toArray, List.set_cons_zero, List.set_cons_succ])
                          have G' := Blk.new w3 42 #[.bool false, .slice none 0 0, .int .i64 0]
                          have Gn : we.heap.size ≤ w3.heap.size := D.size
                          have hne : Hg ≠ w3.heap.size := Nat.ne_of_lt H.lt
                          have H := H.alloc (.cells #[.bool false, .slice none 0 0, .int .i64 0] 42)
                          have hq := hq.below (hb3 w3 (.cells #[.bool false, .slice none 0 0, .int .i64 0] 42))
                          have D1 : Below we.heap.size we (w3.alloc (.cells #[.bool false, .slice none 0 0, .int .i64 0] 42)) := D.alloc D.size (.cells #[.bool false, .slice none 0 0, .int .i64 0] 42)
                          clear D
                          have D := D1
                          clear D1
                          obtain ⟨w8, hw8⟩ : ∃ w8, w3.alloc (.cells #[.bool false, .slice none 0 0, .int .i64 0] 42) = w8 := ⟨_, rfl⟩
                          obtain ⟨Gg, hGg⟩ : ∃ Gg, w3.heap.size = Gg := ⟨_, rfl⟩
                          rw [hw8] at G' D H hq hHeld ⊢
                          rw [hGg] at G' Gn hne ⊢
                          have G := G'
                          clear G' hw8 hGg
                          (refine wpAnyL_one (i := 3) (o := _) (by kernel_rfl) rfl (fun K hK => ?_); clear hHeld; simp only [List.getElem_toArray, List.getElem_cons_zero, List.getElem_cons_succ]; go_simp; (go_at_call 34; (with_reducible refine (QOd.out _ (KW.out _ D)).mono ?_); rintro e w4 ⟨br', Ar, nr, cr, tr, zr, rfl, hz', z1, z2, z3, z4, hb⟩; have hr := RetS.qs hz' z1 z2 z3 z4; have hq := hq.below hb; have D := D.trans (hb.mono D.size); have G := G.below hb G.lt; have H := H.below hb H.lt); refine hK.out _ _ ?_ (fun hHeld => ?_); focus (intro _; exact KQ.out _ D)); have hHeld := hHeld (by decide); clear hK K; (try simp only [Act.put, List.setIfInBounds_toArray, List.set_cons_zero, List.set_cons_succ])
                          clear hz' z1 z2 z3 z4 hb
                          have X := Lib.hid (qp_set D Gn Hn hne.symm G H hq hr)
                          have D10 := below3q D Gn (.bool bq) (.slice Aq nq cq) (.int .i64 tq)
                          have D11 := below3q D10 Hn (.bool br') (.slice Ar nr cr) (.int .i64 tr)
                          have H1 := far3 H (hne.symm).symm (.bool bq) (.slice Aq nq cq) (.int .i64 tq)
                          have g0 := G.at_ 0 rfl; have g1 := G.at_ 1 rfl; have g2 := G.at_ 2 rfl; have f0 := G.frozen 0; have f1 := G.frozen 1; have f2 := G.frozen 2; have h0 := H1.at_ 0 rfl; have h1 := H1.at_ 1 rfl; have h2 := H1.at_ 2 rfl; have f3 := H1.frozen 0; have f4 := H1.frozen 1; have f5 := H1.frozen 2
                          have D10 := Lib.hid D10; have D11 := Lib.hid D11
                          clear G H H1 D hq hr
                          (refine wpAnyL_one (i := 6) (o := _) (by kernel_rfl) rfl (fun K hK => ?_); clear hHeld; simp only [List.getElem_toArray, List.getElem_cons_zero, List.getElem_cons_succ]; go_simp; refine hK.out _ _ ?_ (fun hHeld => ?_); focus (intro _; exact KQ.out _ D10.out)); have hHeld := hHeld (by decide); clear hK K; (try simp only [Act.put, List.setIfInBounds_toArray, List.set_cons_zero, List.set_cons_succ])
                          (refine wpAnyL_one (i := 7) (o := _) (by kernel_rfl) rfl (fun K hK => ?_); clear hHeld; simp only [List.getElem_toArray, List.getElem_cons_zero, List.getElem_cons_succ]; go_simp; refine hK.out _ _ ?_ (fun hHeld => ?_); focus (intro _; exact KQ.out _ D11.out)); have hHeld := hHeld (by decide); clear hK K; (try simp only [Act.put, List.setIfInBounds_toArray, List.set_cons_zero, List.set_cons_succ])
                          refine wpAnyL_done (by kernel_rfl) ?_ _
                          go_wp2
                          go_meet
                          exact X.out
                  · as_aux_lemma =>
                      (clear hHeld; simp only [List.getElem_toArray, List.getElem_cons_zero, List.getElem_cons_succ]; go_simp; refine hK.out _ _ ?_ (fun hHeld => ?_); focus (intro _; exact KQ.out _ (D.alloc D.size _))); have hHeld := hHeld (by decide); clear hK K; (try simp only [Act.put, List.setIfInBounds_toArray, List.set_cons_zero, List.set_cons_succ])
                      have G' := Blk.new w9 42 #[.bool false, .slice none 0 0, .int .i64 0]
                      have Gn : we.heap.size ≤ w9.heap.size := D.size
                      have hne : Hg ≠ w9.heap.size := Nat.ne_of_lt H.lt
                      have H := H.alloc (.cells #[.bool false, .slice none 0 0, .int .i64 0] 42)
                      have D1 : Below we.heap.size we (w9.alloc (.cells #[.bool false, .slice none 0 0, .int .i64 0] 42)) := D.alloc D.size (.cells #[.bool false, .slice none 0 0, .int .i64 0] 42)
                      clear D
                      have D := D1
                      clear D1
                      obtain ⟨w8, hw8⟩ : ∃ w8, w9.alloc (.cells #[.bool false, .slice none 0 0, .int .i64 0] 42) = w8 := ⟨_, rfl⟩
                      obtain ⟨Gg, hGg⟩ : ∃ Gg, w9.heap.size = Gg := ⟨_, rfl⟩
                      rw [hw8] at G' D H hHeld ⊢
                      rw [hGg] at G' Gn hne ⊢
                      have G := G'
                      clear G' hw8 hGg
                      (refine wpAnyL_one (i := 1) (o := _) (by kernel_rfl) rfl (fun K hK => ?_); clear hHeld; simp only [List.getElem_toArray, List.getElem_cons_zero, List.getElem_cons_succ]; go_simp; (go_at_call 34; (with_reducible refine (QOc.out _ (KW.out _ D)).mono ?_); rintro e w3 ⟨bq, Aq, nq, cq, tq, zq, rfl, hz, y1, y2, y3, y4, hb⟩; have hq := RetS.qs hz y1 y2 y3 y4; have D := D.trans (hb.mono D.size); have G := G.below hb G.lt; have H := H.below hb H.lt); refine hK.out _ _ ?_ (fun hHeld => ?_); focus (intro _; exact KQ.out _ D)); have hHeld := hHeld (by decide); clear hK K; (try simp only [Act.put, List.setIfInBounds_toArray, List.set_cons_zero, List.set_cons_succ])
                      clear hz y1 y2 y3 y4 hb
                      (refine wpAnyL_one (i := 3) (o := _) (by kernel_rfl) rfl (fun K hK => ?_); clear hHeld; simp only [List.getElem_toArray, List.getElem_cons_zero, List.getElem_cons_succ]; go_simp; (go_at_call 34; (with_reducible refine (QOd.out _ (KW.out _ D)).mono ?_); rintro e w4 ⟨br', Ar, nr, cr, tr, zr, rfl, hz', z1, z2, z3, z4, hb⟩; have hr := RetS.qs hz' z1 z2 z3 z4; have hq := hq.below hb; have D := D.trans (hb.mono D.size); have G := G.below hb G.lt; have H := H.below hb H.lt); refine hK.out _ _ ?_ (fun hHeld => ?_); focus (intro _; exact KQ.out _ D)); have hHeld := hHeld (by decide); clear hK K; (try simp only [Act.put, List.setIfInBounds_toArray, List.set_cons_zero, List.set_cons_succ])
                      clear hz' z1 z2 z3 z4 hb
                      have X := Lib.hid (qp_set D Gn Hn hne.symm G H hq hr)
                      have D10 := below3q D Gn (.bool bq) (.slice Aq nq cq) (.int .i64 tq)
                      have D11 := below3q D10 Hn (.bool br') (.slice Ar nr cr) (.int .i64 tr)
                      have H1 := far3 H (hne.symm).symm (.bool bq) (.slice Aq nq cq) (.int .i64 tq)
                      have g0 := G.at_ 0 rfl; have g1 := G.at_ 1 rfl; have g2 := G.at_ 2 rfl; have f0 := G.frozen 0; have f1 := G.frozen 1; have f2 := G.frozen 2; have h0 := H1.at_ 0 rfl; have h1 := H1.at_ 1 rfl; have h2 := H1.at_ 2 rfl; have f3 := H1.frozen 0; have f4 := H1.frozen 1; have f5 := H1.frozen 2
                      have D10 := Lib.hid D10; have D11 := Lib.hid D11
                      clear G H H1 D hq hr
                      (refine wpAnyL_one (i := 6) (o := _) (by kernel_rfl) rfl (fun K hK => ?_); clear hHeld; simp only [List.getElem_toArray, List.getElem_cons_zero, List.getElem_cons_succ]; go_simp; refine hK.out _ _ ?_ (fun hHeld => ?_); focus (intro _; exact KQ.out _ D10.out)); have hHeld := hHeld (by decide); clear hK K; (try simp only [Act.put, List.setIfInBounds_toArray, List.set_cons_zero, List.set_cons_succ])
                      (refine wpAnyL_one (i := 7) (o := _) (by kernel_rfl) rfl (fun K hK => ?_); clear hHeld; simp only [List.getElem_toArray, List.getElem_cons_zero, List.getElem_cons_succ]; go_simp; refine hK.out _ _ ?_ (fun hHeld => ?_); focus (intro _; exact KQ.out _ D11.out)); have hHeld := hHeld (by decide); clear hK K; (try simp only [Act.put, List.setIfInBounds_toArray, List.set_cons_zero, List.set_cons_succ])
                      refine wpAnyL_done (by kernel_rfl) ?_ _
                      go_wp2
                      go_meet
                      exact X.out
            case rest =>
              obtain ⟨ga, gb, bq, Aq, nq, cq, tq, br, Ar, nr, cr, tr, rfl, rfl, G, H, hq, hr, DC⟩ := hcut
              obtain ⟨wz, hwz⟩ : ∃ wz, wz = wc := ⟨_, rfl⟩
              have KF : Hid (∀ W, Below wz.heap.size wz W → (((W.cell? ⟨g4, 0, none⟩ = some (.bool b4) ∧ W.cell? ⟨g4, 1, none⟩ = some (.slice A4 n4 c4) ∧ W.cell? ⟨g4, 2, none⟩ = some (.int .i64 x4)) ∧ (W.cell? ⟨g5, 0, none⟩ = some (.bool b5) ∧ W.cell? ⟨g5, 1, none⟩ = some (.slice A5 n5 c5) ∧ W.cell? ⟨g5, 2, none⟩ = some (.int .i64 x5)) ∧ (W.cell? ⟨g6, 0, none⟩ = some (.bool b6) ∧ W.cell? ⟨g6, 1, none⟩ = some (.slice A6 n6 c6) ∧ W.cell? ⟨g6, 2, none⟩ = some (.int .i64 x6)) ∧ (W.cell? ⟨g7, 0, none⟩ = some (.bool false) ∧ W.cell? ⟨g7, 1, none⟩ = some (.slice A7 0 c7) ∧ W.cell? ⟨g7, 2, none⟩ = some (.int .i64 0)) ∧ (W.cell? ⟨w.heap.size, 0, none⟩ = some (.bool b1) ∧ W.cell? ⟨w.heap.size, 1, none⟩ = some (.slice A1 n1 c1) ∧ W.cell? ⟨w.heap.size, 2, none⟩ = some (.int .i64 x1)) ∧ (W.cell? ⟨w.heap.size + 1, 0, none⟩ = some (.bool b2) ∧ W.cell? ⟨w.heap.size + 1, 1, none⟩ = some (.slice A2 n2 c2) ∧ W.cell? ⟨w.heap.size + 1, 2, none⟩ = some (.int .i64 x2))) ∧ ((W.cell? ⟨ga, 0, none⟩ = some (.bool bq) ∧ W.cell? ⟨ga, 1, none⟩ = some (.slice Aq nq cq) ∧ W.cell? ⟨ga, 2, none⟩ = some (.int .i64 tq)) ∧ (W.cell? ⟨gb, 0, none⟩ = some (.bool br) ∧ W.cell? ⟨gb, 1, none⟩ = some (.slice Ar nr cr) ∧ W.cell? ⟨gb, 2, none⟩ = some (.int .i64 tr)))) ∧ Below W7.heap.size W7 W) := fun W hb => by
                rw [hwz] at hb
                have h1 := KE.out W (DC.trans (hb.mono DC.size))
                have h2 := G.below hb G.lt
                have h3 := H.below hb H.lt
                exact ⟨⟨(KA.out W h1).1, ⟨h2.at_ 0 rfl, h2.at_ 1 rfl, h2.at_ 2 rfl⟩, h3.at_ 0 rfl, h3.at_ 1 rfl, h3.at_ 2 rfl⟩, h1⟩
              have VQ : Hid (∀ W, Below wz.heap.size wz W → QS 22800 10000 W (.agg #[.bool bq, .slice Aq nq cq, .int .i64 tq]) (S c)) := fun W hb => by rw [hwz] at hb; exact hq.below hb
              have VR : Hid (∀ W, Below wz.heap.size wz W → QS 22800 10000 W (.agg #[.bool br, .slice Ar nr cr, .int .i64 tr]) (S d)) := fun W hb => by rw [hwz] at hb; exact hr.below hb
              have D : Hid (Below wz.heap.size wz wc.drew) := by rw [hwz]; exact (Below.refl _ _).drew
              clear hwz G H hq hr DC KE DE
              go_upto_region 18 with fail
              (refine wp_region_L (S := fun w' => ((w'.cell? ⟨g4, 0, none⟩ = some (.bool b4) ∧ w'.cell? ⟨g4, 1, none⟩ = some (.slice A4 n4 c4) ∧ w'.cell? ⟨g4, 2, none⟩ = some (.int .i64 x4)) ∧ (w'.cell? ⟨g5, 0, none⟩ = some (.bool b5) ∧ w'.cell? ⟨g5, 1, none⟩ = some (.slice A5 n5 c5) ∧ w'.cell? ⟨g5, 2, none⟩ = some (.int .i64 x5)) ∧ (w'.cell? ⟨g6, 0, none⟩ = some (.bool b6) ∧ w'.cell? ⟨g6, 1, none⟩ = some (.slice A6 n6 c6) ∧ w'.cell? ⟨g6, 2, none⟩ = some (.int .i64 x6)) ∧ (w'.cell? ⟨g7, 0, none⟩ = some (.bool false) ∧ w'.cell? ⟨g7, 1, none⟩ = some (.slice A7 0 c7) ∧ w'.cell? ⟨g7, 2, none⟩ = some (.int .i64 0)) ∧ (w'.cell? ⟨w.heap.size, 0, none⟩ = some (.bool b1) ∧ w'.cell? ⟨w.heap.size, 1, none⟩ = some (.slice A1 n1 c1) ∧ w'.cell? ⟨w.heap.size, 2, none⟩ = some (.int .i64 x1)) ∧ (w'.cell? ⟨w.heap.size + 1, 0, none⟩ = some (.bool b2) ∧ w'.cell? ⟨w.heap.size + 1, 1, none⟩ = some (.slice A2 n2 c2) ∧ w'.cell? ⟨w.heap.size + 1, 2, none⟩ = some (.int .i64 x2))) ∧ ((w'.cell? ⟨ga, 0, none⟩ = some (.bool bq) ∧ w'.cell? ⟨ga, 1, none⟩ = some (.slice Aq nq cq) ∧ w'.cell? ⟨ga, 2, none⟩ = some (.int .i64 tq)) ∧ (w'.cell? ⟨gb, 0, none⟩ = some (.bool br) ∧ w'.cell? ⟨gb, 1, none⟩ = some (.slice Ar nr cr) ∧ w'.cell? ⟨gb, 2, none⟩ = some (.int .i64 tr)))) (nl := 1000000) (by kernel_rfl) ?_ (fun hHeld => ?_); focus (exact (KF.out _ D.out).1))
              (refine wpAnyL_take (i := 0) (oi := _) (v := ?_) rfl (by kernel_rfl) (by kernel_rfl) (by kernel_rfl) (fun _ _ _ h => h) (Or.inl ⟨by first | rfl | kernel_rfl, ?hy3⟩) (by assumption) ?rs3; (case hy3 => (intro w hSw; (try dsimp only at hSw); go_simp; first | done | with_reducible rfl)); case' rs3 => (simp only [List.getElem_toArray, List.getElem_cons_zero, List.getElem_cons_succ, Act.put, List.setIfInBounds_toArray, List.set_cons_zero, List.set_cons_succ])); (refine wpAnyL_take (i := 1) (oi := _) (v := ?_) rfl (by kernel_rfl) (by kernel_rfl) (by kernel_rfl) (fun _ _ _ h => h) (Or.inl ⟨by first | rfl | kernel_rfl, ?hy4⟩) (by assumption) ?rs4; (case hy4 => (intro w hSw; (try dsimp only at hSw); go_simp; first | done | with_reducible rfl)); case' rs4 => (simp only [List.getElem_toArray, List.getElem_cons_zero, List.getElem_cons_succ, Act.put, List.setIfInBounds_toArray, List.set_cons_zero, List.set_cons_succ])); (refine wpAnyL_take (i := 2) (oi := _) (v := ?_) rfl (by kernel_rfl) (by kernel_rfl) (by kernel_rfl) (fun _ _ _ h => h) (Or.inl ⟨by first | rfl | kernel_rfl, ?hy5⟩) (by assumption) ?rs5; (case hy5 => (intro w hSw; (try dsimp only at hSw); go_simp; first | done | with_reducible rfl)); case' rs5 => (simp only [List.getElem_toArray, List.getElem_cons_zero, List.getElem_cons_succ, Act.put, List.setIfInBounds_toArray, List.set_cons_zero, List.set_cons_succ])); skip
              (refine wpAnyL_one (i := 3) (o := _) (by kernel_rfl) rfl (fun K hK => ?_); clear hHeld; simp only [List.getElem_toArray, List.getElem_cons_zero, List.getElem_cons_succ]; go_simp; (go_at_call 35; (with_reducible refine (QCm.out _ _ _ (VQ.out _ D.out) (VR.out _ D.out)).mono ?_); rintro e w3 ⟨rfl, hb⟩; have D := Lib.hid (D.out.trans (hb.mono D.out.size)); clear hb); refine hK.out _ _ ?_ (fun hHeld => ?_); focus (intro _; exact (KF.out _ D.out).1)); have hHeld := hHeld (by decide); clear hK K; (try simp only [Act.put, List.setIfInBounds_toArray, List.set_cons_zero, List.set_cons_succ])
              (refine wpAnyL_take (i := 4) (oi := _) (v := ?_) rfl (by kernel_rfl) (by kernel_rfl) (by kernel_rfl) (fun _ _ _ h => h) (Or.inl ⟨by first | rfl | kernel_rfl, ?hy6⟩) (by assumption) ?rs6; (case hy6 => (intro w hSw; (try dsimp only at hSw); go_simp; first | done | with_reducible rfl)); case' rs6 => (simp only [List.getElem_toArray, List.getElem_cons_zero, List.getElem_cons_succ, Act.put, List.setIfInBounds_toArray, List.set_cons_zero, List.set_cons_succ])); (refine wpAnyL_take (i := 5) (oi := _) (v := ?_) rfl (by kernel_rfl) (by kernel_rfl) (by kernel_rfl) (fun _ _ _ h => h) (Or.inl ⟨by first | rfl | kernel_rfl, ?hy7⟩) (by assumption) ?rs7; (case hy7 => (intro w hSw; (try dsimp only at hSw); go_simp; first | done | with_reducible rfl)); case' rs7 => (simp only [List.getElem_toArray, List.getElem_cons_zero, List.getElem_cons_succ, Act.put, List.setIfInBounds_toArray, List.set_cons_zero, List.set_cons_succ])); (refine wpAnyL_take (i := 6) (oi := _) (v := ?_) rfl (by kernel_rfl) (by kernel_rfl) (by kernel_rfl) (fun _ _ _ h => h) (Or.inl ⟨by first | rfl | kernel_rfl, ?hy8⟩) (by assumption) ?rs8; (case hy8 => (intro w hSw; (try dsimp only at hSw); go_simp; first | done | with_reducible rfl)); case' rs8 => (simp only [List.getElem_toArray, List.getElem_cons_zero, List.getElem_cons_succ, Act.put, List.setIfInBounds_toArray, List.set_cons_zero, List.set_cons_succ])); (refine wpAnyL_take (i := 7) (oi := _) (v := ?_) rfl (by kernel_rfl) (by kernel_rfl) (by kernel_rfl) (fun _ _ _ h => h) (Or.inl ⟨by first | rfl | kernel_rfl, ?hy9⟩) (by assumption) ?rs9; (case hy9 => (intro w hSw; (try dsimp only at hSw); go_simp; first | done | with_reducible rfl)); case' rs9 => (simp only [List.getElem_toArray, List.getElem_cons_zero, List.getElem_cons_succ, Act.put, List.setIfInBounds_toArray, List.set_cons_zero, List.set_cons_succ])); (refine wpAnyL_take (i := 8) (oi := _) (v := ?_) rfl (by kernel_rfl) (by kernel_rfl) (by kernel_rfl) (fun _ _ _ h => h) (Or.inl ⟨by first | rfl | kernel_rfl, ?hy10⟩) (by assumption) ?rs10; (case hy10 => (intro w hSw; (try dsimp only at hSw); go_simp; first | done | with_reducible rfl)); case' rs10 => (simp only [List.getElem_toArray, List.getElem_cons_zero, List.getElem_cons_succ, Act.put, List.setIfInBounds_toArray, List.set_cons_zero, List.set_cons_succ])); (refine wpAnyL_take (i := 9) (oi := _) (v := ?_) rfl (by kernel_rfl) (by kernel_rfl) (by kernel_rfl) (fun _ _ _ h => h) (Or.inl ⟨by first | rfl | kernel_rfl, ?hy11⟩) (by assumption) ?rs11; (case hy11 => (intro w hSw; (try dsimp only at hSw); go_simp; first | done | with_reducible rfl)); case' rs11 => (simp only [List.getElem_toArray, List.getElem_cons_zero, List.getElem_cons_succ, Act.put, List.setIfInBounds_toArray, List.set_cons_zero, List.set_cons_succ])); (refine wpAnyL_take (i := 10) (oi := _) (v := ?_) rfl (by kernel_rfl) (by kernel_rfl) (by kernel_rfl) (fun _ _ _ h => h) (Or.inl ⟨by first | rfl | kernel_rfl, ?hy12⟩) (by assumption) ?rs12; (case hy12 => (intro w hSw; (try dsimp only at hSw); go_simp; first | done | with_reducible rfl)); case' rs12 => (simp only [List.getElem_toArray, List.getElem_cons_zero, List.getElem_cons_succ, Act.put, List.setIfInBounds_toArray, List.set_cons_zero, List.set_cons_succ])); (refine wpAnyL_take (i := 11) (oi := _) (v := ?_) rfl (by kernel_rfl) (by kernel_rfl) (by kernel_rfl) (fun _ _ _ h => h) (Or.inl ⟨by first | rfl | kernel_rfl, ?hy13⟩) (by assumption) ?rs13; (case hy13 => (intro w hSw; (try dsimp only at hSw); go_simp; first | done | with_reducible rfl)); case' rs13 => (simp only [List.getElem_toArray, List.getElem_cons_zero, List.getElem_cons_succ, Act.put, List.setIfInBounds_toArray, List.set_cons_zero, List.set_cons_succ])); (refine wpAnyL_take (i := 12) (oi := _) (v := ?_) rfl (by kernel_rfl) (by kernel_rfl) (by kernel_rfl) (fun _ _ _ h => h) (Or.inl ⟨by first | rfl | kernel_rfl, ?hy14⟩) (by assumption) ?rs14; (case hy14 => (intro w hSw; (try dsimp only at hSw); go_simp; first | done | with_reducible rfl)); case' rs14 => (simp only [List.getElem_toArray, List.getElem_cons_zero, List.getElem_cons_succ, Act.put, List.setIfInBounds_toArray, List.set_cons_zero, List.set_cons_succ])); (refine wpAnyL_take (i := 13) (oi := _) (v := ?_) rfl (by kernel_rfl) (by kernel_rfl) (by kernel_rfl) (fun _ _ _ h => h) (Or.inl ⟨by first | rfl | kernel_rfl, ?hy15⟩) (by assumption) ?rs15; (case hy15 => (intro w hSw; (try dsimp only at hSw); go_simp; first | done | with_reducible rfl)); case' rs15 => (simp only [List.getElem_toArray, List.getElem_cons_zero, List.getElem_cons_succ, Act.put, List.setIfInBounds_toArray, List.set_cons_zero, List.set_cons_succ])); skip
              (refine wpAnyL_one (i := 14) (o := _) (by kernel_rfl) rfl (fun K hK => ?_); clear hHeld; simp only [List.getElem_toArray, List.getElem_cons_zero, List.getElem_cons_succ]; go_simp; (go_at_call 36; (with_reducible refine (QAd.out _ _ _ (VQ.out _ D.out) (VR.out _ D.out)).mono ?_); rintro e w4 ⟨b12, A12, n12, c12, t12, z12, rfl, hz, y1, y2, y3, y4, hb⟩; have D := Lib.hid (D.out.trans (hb.mono D.out.size)); have Q14 := Lib.hid (RetS.qs hz y1 y2 y3 y4); clear hb hz y1 y2 y3 y4); refine hK.out _ _ ?_ (fun hHeld => ?_); focus (intro _; exact (KF.out _ D.out).1)); have hHeld := hHeld (by decide); clear hK K; (try simp only [Act.put, List.setIfInBounds_toArray, List.set_cons_zero, List.set_cons_succ])
              (refine wpAnyL_one (i := 15) (o := _) (by kernel_rfl) rfl (fun K hK => ?_); clear hHeld; simp only [List.getElem_toArray, List.getElem_cons_zero, List.getElem_cons_succ]; go_simp; (go_at_call 21; (with_reducible refine (TX.out _ _ _ _ _ _ _ (KA.out _ (KF.out _ D.out).2).2.1 Q14.out).mono ?_); rintro e w5 ⟨rfl, hb⟩; have D := Lib.hid (D.out.trans (hb.mono D.out.size)); clear hb Q14); refine hK.out _ _ ?_ (fun hHeld => ?_); focus (intro _; exact (KF.out _ D.out).1)); have hHeld := hHeld (by decide); clear hK K; (try simp only [Act.put, List.setIfInBounds_toArray, List.set_cons_zero, List.set_cons_succ])
              (refine wpAnyL_take (i := 16) (oi := _) (v := ?_) rfl (by kernel_rfl) (by kernel_rfl) (by kernel_rfl) (fun _ _ _ h => h) (Or.inl ⟨by first | rfl | kernel_rfl, ?hy16⟩) (by assumption) ?rs16; (case hy16 => (intro w hSw; (try dsimp only at hSw); go_simp; first | done | with_reducible rfl)); case' rs16 => (simp only [List.getElem_toArray, List.getElem_cons_zero, List.getElem_cons_succ, Act.put, List.setIfInBounds_toArray, List.set_cons_zero, List.set_cons_succ])); (refine wpAnyL_take (i := 17) (oi := _) (v := ?_) rfl (by kernel_rfl) (by kernel_rfl) (by kernel_rfl) (fun _ _ _ h => h) (Or.inl ⟨by first | rfl | kernel_rfl, ?hy17⟩) (by assumption) ?rs17; (case hy17 => (intro w hSw; (try dsimp only at hSw); go_simp; first | done | with_reducible rfl)); case' rs17 => (simp only [List.getElem_toArray, List.getElem_cons_zero, List.getElem_cons_succ, Act.put, List.setIfInBounds_toArray, List.set_cons_zero, List.set_cons_succ])); (refine wpAnyL_take (i := 18) (oi := _) (v := ?_) rfl (by kernel_rfl) (by kernel_rfl) (by kernel_rfl) (fun _ _ _ h => h) (Or.inl ⟨by first | rfl | kernel_rfl, ?hy18⟩) (by assumption) ?rs18; (case hy18 => (intro w hSw; (try dsimp only at hSw); go_simp; first | done | with_reducible rfl)); case' rs18 => (simp only [List.getElem_toArray, List.getElem_cons_zero, List.getElem_cons_succ, Act.put, List.setIfInBounds_toArray, List.set_cons_zero, List.set_cons_succ])); (refine wpAnyL_take (i := 19) (oi := _) (v := ?_) rfl (by kernel_rfl) (by kernel_rfl) (by kernel_rfl) (fun _ _ _ h => h) (Or.inl ⟨by first | rfl | kernel_rfl, ?hy19⟩) (by assumption) ?rs19; (case hy19 => (intro w hSw; (try dsimp only at hSw); go_simp; first | done | with_reducible rfl)); case' rs19 => (simp only [List.getElem_toArray, List.getElem_cons_zero, List.getElem_cons_succ, Act.put, List.setIfInBounds_toArray, List.set_cons_zero, List.set_cons_succ])); (refine wpAnyL_take (i := 20) (oi := _) (v := ?_) rfl (by kernel_rfl) (by kernel_rfl) (by kernel_rfl) (fun _ _ _ h => h) (Or.inl ⟨by first | rfl | kernel_rfl, ?hy20⟩) (by assumption) ?rs20; (case hy20 => (intro w hSw; (try dsimp only at hSw); go_simp; first | done | with_reducible rfl)); case' rs20 => (simp only [List.getElem_toArray, List.getElem_cons_zero, List.getElem_cons_succ, Act.put, List.setIfInBounds_toArray, List.set_cons_zero, List.set_cons_succ])); (refine wpAnyL_take (i := 21) (oi := _) (v := ?_) rfl (by kernel_rfl) (by kernel_rfl) (by kernel_rfl) (fun _ _ _ h => h) (Or.inl ⟨by first | rfl | kernel_rfl, ?hy21⟩) (by assumption) ?rs21; (case hy21 => (intro w hSw; (try dsimp only at hSw); go_simp; first | done | with_reducible rfl)); case' rs21 => (simp only [List.getElem_toArray, List.getElem_cons_zero, List.getElem_cons_succ, Act.put, List.setIfInBounds_toArray, List.set_cons_zero, List.set_cons_succ])); skip
              (refine wpAnyL_one (i := 22) (o := _) (by kernel_rfl) rfl (fun K hK => ?_); clear hHeld; simp only [List.getElem_toArray, List.getElem_cons_zero, List.getElem_cons_succ]; go_simp; (go_at_call 37; (with_reducible refine (QNg.out _ _ (VR.out _ D.out)).mono ?_); rintro e w4 ⟨b12, A12, n12, c12, t12, z12, rfl, hz, y1, y2, y3, y4, hb⟩; have D := Lib.hid (D.out.trans (hb.mono D.out.size)); have Q22 := Lib.hid (RetS.qs hz y1 y2 y3 y4); clear hb hz y1 y2 y3 y4); refine hK.out _ _ ?_ (fun hHeld => ?_); focus (intro _; exact (KF.out _ D.out).1)); have hHeld := hHeld (by decide); clear hK K; (try simp only [Act.put, List.setIfInBounds_toArray, List.set_cons_zero, List.set_cons_succ])
              (refine wpAnyL_one (i := 23) (o := _) (by kernel_rfl) rfl (fun K hK => ?_); clear hHeld; simp only [List.getElem_toArray, List.getElem_cons_zero, List.getElem_cons_succ]; go_simp; (go_at_call 36; (with_reducible refine (QAe.out _ _ _ (VQ.out _ D.out) Q22.out).mono ?_); rintro e w4 ⟨b12, A12, n12, c12, t12, z12, rfl, hz, y1, y2, y3, y4, hb⟩; have D := Lib.hid (D.out.trans (hb.mono D.out.size)); have Q23 := Lib.hid (RetS.qs hz y1 y2 y3 y4); clear hb hz y1 y2 y3 y4 Q22); refine hK.out _ _ ?_ (fun hHeld => ?_); focus (intro _; exact (KF.out _ D.out).1)); have hHeld := hHeld (by decide); clear hK K; (try simp only [Act.put, List.setIfInBounds_toArray, List.set_cons_zero, List.set_cons_succ])
              (refine wpAnyL_one (i := 24) (o := _) (by kernel_rfl) rfl (fun K hK => ?_); clear hHeld; simp only [List.getElem_toArray, List.getElem_cons_zero, List.getElem_cons_succ]; go_simp; (go_at_call 21; (with_reducible refine (TY.out _ _ _ _ _ _ _ (KA.out _ (KF.out _ D.out).2).2.2.1 Q23.out).mono ?_); rintro e w5 ⟨rfl, hb⟩; have D := Lib.hid (D.out.trans (hb.mono D.out.size)); clear hb Q23); refine hK.out _ _ ?_ (fun hHeld => ?_); focus (intro _; exact (KF.out _ D.out).1)); have hHeld := hHeld (by decide); clear hK K; (try simp only [Act.put, List.setIfInBounds_toArray, List.set_cons_zero, List.set_cons_succ])
              (refine wpAnyL_take (i := 25) (oi := _) (v := ?_) rfl (by kernel_rfl) (by kernel_rfl) (by kernel_rfl) (fun _ _ _ h => h) (Or.inl ⟨by first | rfl | kernel_rfl, ?hy22⟩) (by assumption) ?rs22; (case hy22 => (intro w hSw; (try dsimp only at hSw); go_simp; first | done | with_reducible rfl)); case' rs22 => (simp only [List.getElem_toArray, List.getElem_cons_zero, List.getElem_cons_succ, Act.put, List.setIfInBounds_toArray, List.set_cons_zero, List.set_cons_succ])); (refine wpAnyL_take (i := 26) (oi := _) (v := ?_) rfl (by kernel_rfl) (by kernel_rfl) (by kernel_rfl) (fun _ _ _ h => h) (Or.inl ⟨by first | rfl | kernel_rfl, ?hy23⟩) (by assumption) ?rs23; (case hy23 => (intro w hSw; (try dsimp only at hSw); go_simp; first | done | with_reducible rfl)); case' rs23 => (simp only [List.getElem_toArray, List.getElem_cons_zero, List.getElem_cons_succ, Act.put, List.setIfInBounds_toArray, List.set_cons_zero, List.set_cons_succ])); (refine wpAnyL_take (i := 27) (oi := _) (v := ?_) rfl (by kernel_rfl) (by kernel_rfl) (by kernel_rfl) (fun _ _ _ h => h) (Or.inl ⟨by first | rfl | kernel_rfl, ?hy24⟩) (by assumption) ?rs24; (case hy24 => (intro w hSw; (try dsimp only at hSw); go_simp; first | done | with_reducible rfl)); case' rs24 => (simp only [List.getElem_toArray, List.getElem_cons_zero, List.getElem_cons_succ, Act.put, List.setIfInBounds_toArray, List.set_cons_zero, List.set_cons_succ])); (refine wpAnyL_take (i := 28) (oi := _) (v := ?_) rfl (by kernel_rfl) (by kernel_rfl) (by kernel_rfl) (fun _ _ _ h => h) (Or.inl ⟨by first | rfl | kernel_rfl, ?hy25⟩) (by assumption) ?rs25; (case hy25 => (intro w hSw; (try dsimp only at hSw); go_simp; first | done | with_reducible rfl)); case' rs25 => (simp only [List.getElem_toArray, List.getElem_cons_zero, List.getElem_cons_succ, Act.put, List.setIfInBounds_toArray, List.set_cons_zero, List.set_cons_succ])); (refine wpAnyL_take (i := 29) (oi := _) (v := ?_) rfl (by kernel_rfl) (by kernel_rfl) (by kernel_rfl) (fun _ _ _ h => h) (Or.inl ⟨by first | rfl | kernel_rfl, ?hy26⟩) (by assumption) ?rs26; (case hy26 => (intro w hSw; (try dsimp only at hSw); go_simp; first | done | with_reducible rfl)); case' rs26 => (simp only [List.getElem_toArray, List.getElem_cons_zero, List.getElem_cons_succ, Act.put, List.setIfInBounds_toArray, List.set_cons_zero, List.set_cons_succ])); (refine wpAnyL_take (i := 30) (oi := _) (v := ?_) rfl (by kernel_rfl) (by kernel_rfl) (by kernel_rfl) (fun _ _ _ h => h) (Or.inl ⟨by first | rfl | kernel_rfl, ?hy27⟩) (by assumption) ?rs27; (case hy27 => (intro w hSw; (try dsimp only at hSw); go_simp; first | done | with_reducible rfl)); case' rs27 => (simp only [List.getElem_toArray, List.getElem_cons_zero, List.getElem_cons_succ, Act.put, List.setIfInBounds_toArray, List.set_cons_zero, List.set_cons_succ])); skip
              (refine wpAnyL_one (i := 31) (o := _) (by kernel_rfl) rfl (fun K hK => ?_); clear hHeld; simp only [List.getElem_toArray, List.getElem_cons_zero, List.getElem_cons_succ]; go_simp; (go_at_call 38; (with_reducible refine (QMu.out _ _ _ (VQ.out _ D.out) (VR.out _ D.out)).mono ?_); rintro e w4 ⟨b12, A12, n12, c12, t12, z12, rfl, hz, y1, y2, y3, y4, hb⟩; have D := Lib.hid (D.out.trans (hb.mono D.out.size)); have Q31 := Lib.hid (RetS.qs hz y1 y2 y3 y4); clear hb hz y1 y2 y3 y4); refine hK.out _ _ ?_ (fun hHeld => ?_); focus (intro _; exact (KF.out _ D.out).1)); have hHeld := hHeld (by decide); clear hK K; (try simp only [Act.put, List.setIfInBounds_toArray, List.set_cons_zero, List.set_cons_succ])
              (refine wpAnyL_one (i := 32) (o := _) (by kernel_rfl) rfl (fun K hK => ?_); clear hHeld; simp only [List.getElem_toArray, List.getElem_cons_zero, List.getElem_cons_succ]; go_simp; (go_at_call 21; (with_reducible refine (TZ.out _ _ _ _ _ _ _ (KA.out _ (KF.out _ D.out).2).2.2.2.1 Q31.out).mono ?_); rintro e w5 ⟨rfl, hb⟩; have D := Lib.hid (D.out.trans (hb.mono D.out.size)); clear hb Q31); refine hK.out _ _ ?_ (fun hHeld => ?_); focus (intro _; exact (KF.out _ D.out).1)); have hHeld := hHeld (by decide); clear hK K; (try simp only [Act.put, List.setIfInBounds_toArray, List.set_cons_zero, List.set_cons_succ])
              (refine wpAnyL_take (i := 33) (oi := _) (v := ?_) rfl (by kernel_rfl) (by kernel_rfl) (by kernel_rfl) (fun _ _ _ h => h) (Or.inl ⟨by first | rfl | kernel_rfl, ?hy28⟩) (by assumption) ?rs28; (case hy28 => (intro w hSw; (try dsimp only at hSw); go_simp; first | done | with_reducible rfl)); case' rs28 => (simp only [List.getElem_toArray, List.getElem_cons_zero, List.getElem_cons_succ, Act.put, List.setIfInBounds_toArray, List.set_cons_zero, List.set_cons_succ])); (refine wpAnyL_take (i := 34) (oi := _) (v := ?_) rfl (by kernel_rfl) (by kernel_rfl) (by kernel_rfl) (fun _ _ _ h => h) (Or.inl ⟨by first | rfl | kernel_rfl, ?hy29⟩) (by assumption) ?rs29; (case hy29 => (intro w hSw; (try dsimp only at hSw); go_simp; first | done | with_reducible rfl)); case' rs29 => (simp only [List.getElem_toArray, List.getElem_cons_zero, List.getElem_cons_succ, Act.put, List.setIfInBounds_toArray, List.set_cons_zero, List.set_cons_succ])); skip
              refine wpAnyL_done (by kernel_rfl) ?_ _
              have D := Lib.hid (KF.out _ D.out).2
              go_wp2
              go_ret
              exact ⟨by first | rfl | simp, D0.out.trans ((D7.out.trans (D.out.mono D7.out.size)).mono D0.out.size)⟩
      · as_aux_lemma =>
            have he : E ≠ 0 := by rw [← hE]; simp [he1]
            clear hE
            obtain ⟨r1, r2, r3, r4, r5⟩ := ERR he
            clear hk0 he0 hrx hry hrz hrs HK hg1 hg2 HG ERR SHE SHB
            have r2 := r2.symm
            subst r1; subst r2; subst r3; subst r4; subst r5
            have gv := (KA.out _ D.out).2
            obtain ⟨i1, i2, i3⟩ := (VD.none_iff gv.1).2 rfl
            obtain ⟨i4, i5, i6⟩ := (VD.none_iff gv.2.1).2 rfl
            obtain ⟨i7, i8, i9⟩ := (VD.none_iff gv.2.2.1).2 rfl
            subst i1; subst i2; subst i3; subst i4; subst i5; subst i6; subst i7; subst i8; subst i9
            have t9 : (E != 0) = true := by simp [he]
            have t8 : (E == 0) = false := by simp [he]
            clear gv
            subst r6
            obtain ⟨i1, i2, i3⟩ := (VD.none_iff (KA.out _ D.out).2.2.2.2.1).2 rfl
            subst i1; subst i2; subst i3
            obtain ⟨⟨⟨s0, s1, s2⟩, ⟨s3, s4, s5⟩, ⟨s6, s7, s8⟩, ⟨t0, t1, t2⟩, ⟨p0, p1, p2⟩, ⟨q0, q1, q2⟩⟩, -⟩ := KA.out _ D.out
            clear hm he1
            clear he
            go_wp2_with (first
              | (go_at_call 20; (with_reducible refine (NO.out _ _ _).mono ?_); rintro e v10 ⟨rfl, hb⟩; have D := Lib.hid (D.out.trans (hb.mono D.out.size)); clear hb; obtain ⟨⟨⟨s0, s1, s2⟩, ⟨s3, s4, s5⟩, ⟨s6, s7, s8⟩, ⟨t0, t1, t2⟩, ⟨p0, p1, p2⟩, ⟨q0, q1, q2⟩⟩, -⟩ := KA.out _ D.out)
              | (go_at_call 24; (with_reducible refine (BT.out _).mono ?_); rintro e v11 ⟨rfl, rfl⟩))
            go_ret
            exact ⟨by first | rfl | simp, D0.out.trans ((D7.out.trans (D.out.mono D7.out.size)).mono D0.out.size)⟩
    · skip
      have od' : Ok d := hg2 (by rw [hE2])
      have QO : Hid (∀ W, Below W0.heap.size W0 W → Calls Tryd.prog 34 #[.agg #[.bool b2, .slice A2 n2 c2, .int .i64 x2]] W (RetV W (mkz d.m d.x) (mkt d.x))) := fun W h => QOf_d _ d W (K0.out W h).2.2.2.1 od'.1
      have QSc : Hid (∀ W u, QV W u (mkz d.m d.x) (mkt d.x) → Calls Tryd.prog 33 #[u, .int .i64 m] W (RetS 42800 30000 W (sc d.m (d.x + m)))) := fun W u h => QShift_v od' hm h
      have TS : Hid (∀ W u b A n c' x, GV W b A n c' x rs.d → QS 42800 30000 W u (sc d.m (d.x + m)) → Calls Tryd.prog 21 #[.agg #[.bool b, .slice A n c', .int .i64 x], .int .i64 rs.e, u] W (DC.RetB W (.bool true))) := fun W u b A n c' x h h' => told_s h h' (by decide) (by decide) (hrs.symm.trans (shf_d od' hm)) rfl (by have := od'.2.2.2.2; omega)
      have BT : Hid (∀ W, Calls Tryd.prog 24 #[.int .i64 m, .int .i64 (-20000), .int .i64 20000] W fun e w' => e = .returned (.bool true) ∧ W = w') := fun W => FloatR.Between_t _ _ _ hm.1 hm.2 W
      clear od'
      by_cases he1 : E1 = 0
      · as_aux_lemma =>
            subst he1
            have oc : Ok c := hg1 (by rw [hE1])
            have od : Ok d := hg2 (by rw [hE2])
            obtain rfl : E = 0 := by rw [← hE]; simp
            obtain rfl : e0 = 0 := by rw [← he0]; exact cmpe_ok oc od
            have QOc : Hid (∀ W, Below W0.heap.size W0 W → Calls Tryd.prog 34 #[.agg #[.bool b1, .slice A1 n1 c1, .int .i64 x1]] W (RetS 22800 10000 W (S c))) := fun W h => QOf_s _ c W (K0.out W h).2.2.1 oc.1
            have QOd : Hid (∀ W, Below W0.heap.size W0 W → Calls Tryd.prog 34 #[.agg #[.bool b2, .slice A2 n2 c2, .int .i64 x2]] W (RetS 22800 10000 W (S d))) := fun W h => QOf_s _ d W (K0.out W h).2.2.2.1 od.1
            have QCm : Hid (∀ W u u', QS 22800 10000 W u (S c) → QS 22800 10000 W u' (S d) → Calls Tryd.prog 35 #[u, u'] W fun e w' => e = .returned (.int .i64 k0) ∧ Below W.heap.size W w') := fun W u u' h h' => by
              have := QCmp_s h h' (by decide) (by decide) (by decide) (by decide)
              rwa [cmp_sc oc od, hk0] at this
            have QAd : Hid (∀ W u u', QS 22800 10000 W u (S c) → QS 22800 10000 W u' (S d) → Calls Tryd.prog 36 #[u, u'] W (RetS (22800 + 10000 + 22800 + 10000 + 1) (10000 + 10000) W (S c + S d))) := fun W u u' h h' => QAdd_w h h'
            have QAe : Hid (∀ W u u', QS 22800 10000 W u (S c) → QS 22800 10000 W u' (-S d) → Calls Tryd.prog 36 #[u, u'] W (RetS (22800 + 10000 + 22800 + 10000 + 1) (10000 + 10000) W (S c + -S d))) := fun W u u' h h' => QAdd_w h h'
            have QNg : Hid (∀ W u, QS 22800 10000 W u (S d) → Calls Tryd.prog 37 #[u] W (RetS 22800 10000 W (-S d))) := fun W u h => QNeg_s h (by decide)
            obtain ⟨m1, m2⟩ := mul_sc oc od
            have QMu : Hid (∀ W u u', QS 22800 10000 W u (S c) → QS 22800 10000 W u' (S d) → Calls Tryd.prog 38 #[u, u'] W (RetS (22800 + 22800) (10000 + 10000) W (sc (c.m * d.m) (c.x + d.x)))) := fun W u u' h h' => QMul_w m2 h h'
            have TX : Hid (∀ W u b A n c' x, GV W b A n c' x rx.d → QS (22800 + 10000 + 22800 + 10000 + 1) (10000 + 10000) W u (S c + S d) → Calls Tryd.prog 21 #[.agg #[.bool b, .slice A n c', .int .i64 x], .int .i64 rx.e, u] W (DC.RetB W (.bool true))) := fun W u b A n c' x h h' => by
              obtain ⟨l1, l2⟩ := add_sc oc od
              exact told_s h h' (by decide) (by decide) (hrx.symm.trans l1) l2 (by have := oc.2.2.2.2; have := od.2.2.2.2; omega)
            have TY : Hid (∀ W u b A n c' x, GV W b A n c' x ry.d → QS (22800 + 10000 + 22800 + 10000 + 1) (10000 + 10000) W u (S c + -S d) → Calls Tryd.prog 21 #[.agg #[.bool b, .slice A n c', .int .i64 x], .int .i64 ry.e, u] W (DC.RetB W (.bool true))) := fun W u b A n c' x h h' => by
              obtain ⟨l1, l2⟩ := sub_sc oc od
              exact told_s h h' (by decide) (by decide) (hry.symm.trans l1) l2 (by have := oc.2.2.2.2; have := od.2.2.2.2; omega)
            have TZ : Hid (∀ W u b A n c' x, GV W b A n c' x rz.d → QS (22800 + 22800) (10000 + 10000) W u (sc (c.m * d.m) (c.x + d.x)) → Calls Tryd.prog 21 #[.agg #[.bool b, .slice A n c', .int .i64 x], .int .i64 rz.e, u] W (DC.RetB W (.bool true))) := fun W u b A n c' x h h' => told_s h h' (by decide) (by decide) (hrz.symm.trans m1) rfl (by have := oc.2.2.2.2; have := od.2.2.2.2; omega)
            clear hk0 he0 hrx hry hrz HK hg1 hg2 HG ERR SHE SHB m1 m2 oc od hrs hE
            obtain ⟨⟨⟨s0, s1, s2⟩, ⟨s3, s4, s5⟩, ⟨s6, s7, s8⟩, ⟨t0, t1, t2⟩, ⟨p0, p1, p2⟩, ⟨q0, q1, q2⟩⟩, -⟩ := KA.out _ D.out
            clear hm
            go_upto_region 13 with (first
              | (go_at_call 24; (with_reducible refine (BT.out _).mono ?_); rintro e v11 ⟨rfl, rfl⟩))
            have D := Lib.hid D.out.drew
            clear s0 s1 s2 s3 s4 s5 s6 s7 s8 t0 t1 t2 p0 p1 p2 q0 q1 q2
            (refine wp_region_L (S := fun w' => ((w'.cell? ⟨g4, 0, none⟩ = some (.bool b4) ∧ w'.cell? ⟨g4, 1, none⟩ = some (.slice A4 n4 c4) ∧ w'.cell? ⟨g4, 2, none⟩ = some (.int .i64 x4)) ∧ (w'.cell? ⟨g5, 0, none⟩ = some (.bool b5) ∧ w'.cell? ⟨g5, 1, none⟩ = some (.slice A5 n5 c5) ∧ w'.cell? ⟨g5, 2, none⟩ = some (.int .i64 x5)) ∧ (w'.cell? ⟨g6, 0, none⟩ = some (.bool b6) ∧ w'.cell? ⟨g6, 1, none⟩ = some (.slice A6 n6 c6) ∧ w'.cell? ⟨g6, 2, none⟩ = some (.int .i64 x6)) ∧ (w'.cell? ⟨g7, 0, none⟩ = some (.bool b7) ∧ w'.cell? ⟨g7, 1, none⟩ = some (.slice A7 n7 c7) ∧ w'.cell? ⟨g7, 2, none⟩ = some (.int .i64 x7)) ∧ (w'.cell? ⟨w.heap.size, 0, none⟩ = some (.bool b1) ∧ w'.cell? ⟨w.heap.size, 1, none⟩ = some (.slice A1 n1 c1) ∧ w'.cell? ⟨w.heap.size, 2, none⟩ = some (.int .i64 x1)) ∧ (w'.cell? ⟨w.heap.size + 1, 0, none⟩ = some (.bool b2) ∧ w'.cell? ⟨w.heap.size + 1, 1, none⟩ = some (.slice A2 n2 c2) ∧ w'.cell? ⟨w.heap.size + 1, 2, none⟩ = some (.int .i64 x2)))) (nl := 1000000) (by kernel_rfl) ?_ (fun hHeld => ?_); focus (exact (KA.out _ D.out).1))
            (refine wpAnyL_take (i := 0) (oi := _) (v := ?_) rfl (by kernel_rfl) (by kernel_rfl) (by kernel_rfl) (fun _ _ _ h => h) (Or.inl ⟨by first | rfl | kernel_rfl, ?hy30⟩) (by assumption) ?rs30; (case hy30 => (intro w hSw; (try dsimp only at hSw); go_simp; first | done | with_reducible rfl)); case' rs30 => (simp only [List.getElem_toArray, List.getElem_cons_zero, List.getElem_cons_succ, Act.put, List.setIfInBounds_toArray, List.set_cons_zero, List.set_cons_succ])); (refine wpAnyL_take (i := 1) (oi := _) (v := ?_) rfl (by kernel_rfl) (by kernel_rfl) (by kernel_rfl) (fun _ _ _ h => h) (Or.inl ⟨by first | rfl | kernel_rfl, ?hy31⟩) (by assumption) ?rs31; (case hy31 => (intro w hSw; (try dsimp only at hSw); go_simp; first | done | with_reducible rfl)); case' rs31 => (simp only [List.getElem_toArray, List.getElem_cons_zero, List.getElem_cons_succ, Act.put, List.setIfInBounds_toArray, List.set_cons_zero, List.set_cons_succ])); (refine wpAnyL_take (i := 2) (oi := _) (v := ?_) rfl (by kernel_rfl) (by kernel_rfl) (by kernel_rfl) (fun _ _ _ h => h) (Or.inl ⟨by first | rfl | kernel_rfl, ?hy32⟩) (by assumption) ?rs32; (case hy32 => (intro w hSw; (try dsimp only at hSw); go_simp; first | done | with_reducible rfl)); case' rs32 => (simp only [List.getElem_toArray, List.getElem_cons_zero, List.getElem_cons_succ, Act.put, List.setIfInBounds_toArray, List.set_cons_zero, List.set_cons_succ])); (refine wpAnyL_take (i := 4) (oi := _) (v := ?_) rfl (by kernel_rfl) (by kernel_rfl) (by kernel_rfl) (fun _ _ _ h => h) (Or.inl ⟨by first | rfl | kernel_rfl, ?hy33⟩) (by assumption) ?rs33; (case hy33 => (intro w hSw; (try dsimp only at hSw); go_simp; first | done | with_reducible rfl)); case' rs33 => (simp only [List.getElem_toArray, List.getElem_cons_zero, List.getElem_cons_succ, Act.put, List.setIfInBounds_toArray, List.set_cons_zero, List.set_cons_succ])); skip
            (refine wpAnyL_one (i := 3) (o := _) (by kernel_rfl) rfl (fun K hK => ?_); clear hHeld; simp only [List.getElem_toArray, List.getElem_cons_zero, List.getElem_cons_succ]; go_simp; (go_at_call 34; (with_reducible refine (QO.out _ (KA.out _ D.out).2.2.2.2.2).mono ?_); rintro e v12 ⟨b12, A12, n12, c12, rfl, h12, hb⟩; have D := Lib.hid (D.out.trans (hb.mono D.out.size)); have h12 := Lib.hid h12; clear hb); refine hK.out _ _ ?_ (fun hHeld => ?_); focus (intro _; exact (KA.out _ D.out).1)); have hHeld := hHeld (by decide); clear hK K; (try simp only [Act.put, List.setIfInBounds_toArray, List.set_cons_zero, List.set_cons_succ])
            (refine wpAnyL_one (i := 5) (o := _) (by kernel_rfl) rfl (fun K hK => ?_); clear hHeld; simp only [List.getElem_toArray, List.getElem_cons_zero, List.getElem_cons_succ]; go_simp; (go_at_call 33; (with_reducible refine (QSc.out _ _ (qv_mk h12.out)).mono ?_); rintro e v13 ⟨b13, A13, n13, c13, t13, z13, rfl, hz, y1, y2, y3, y4, hb⟩; have D := Lib.hid (D.out.trans (hb.mono D.out.size)); have Q13 := Lib.hid (RetS.qs hz y1 y2 y3 y4); clear hb hz y1 y2 y3 y4 h12); refine hK.out _ _ ?_ (fun hHeld => ?_); focus (intro _; exact (KA.out _ D.out).1)); have hHeld := hHeld (by decide); clear hK K; (try simp only [Act.put, List.setIfInBounds_toArray, List.set_cons_zero, List.set_cons_succ])
            (refine wpAnyL_one (i := 6) (o := _) (by kernel_rfl) rfl (fun K hK => ?_); clear hHeld; simp only [List.getElem_toArray, List.getElem_cons_zero, List.getElem_cons_succ]; go_simp; (go_at_call 21; (with_reducible refine (TS.out _ _ _ _ _ _ _ (KA.out _ D.out).2.2.2.2.1 Q13.out).mono ?_); rintro e v14 ⟨rfl, hb⟩; have D := Lib.hid (D.out.trans (hb.mono D.out.size)); clear hb Q13); refine hK.out _ _ ?_ (fun hHeld => ?_); focus (intro _; exact (KA.out _ D.out).1)); have hHeld := hHeld (by decide); clear hK K; (try simp only [Act.put, List.setIfInBounds_toArray, List.set_cons_zero, List.set_cons_succ])
            (refine wpAnyL_take (i := 7) (oi := _) (v := ?_) rfl (by kernel_rfl) (by kernel_rfl) (by kernel_rfl) (fun _ _ _ h => h) (Or.inl ⟨by first | rfl | kernel_rfl, ?hy34⟩) (by assumption) ?rs34; (case hy34 => (intro w hSw; (try dsimp only at hSw); go_simp; first | done | with_reducible rfl)); case' rs34 => (simp only [List.getElem_toArray, List.getElem_cons_zero, List.getElem_cons_succ, Act.put, List.setIfInBounds_toArray, List.set_cons_zero, List.set_cons_succ])); skip
            refine wpAnyL_done (by kernel_rfl) ?_ _
            obtain ⟨⟨⟨s0, s1, s2⟩, ⟨s3, s4, s5⟩, ⟨s6, s7, s8⟩, ⟨t0, t1, t2⟩, ⟨p0, p1, p2⟩, ⟨q0, q1, q2⟩⟩, -⟩ := KA.out _ D.out
            go_upto_region 17 with (first
              | (go_at_call 24; (with_reducible refine (BT.out _).mono ?_); rintro e v11 ⟨rfl, rfl⟩))
            obtain ⟨we0, hwe0⟩ : ∃ we0, we0 = v14 := ⟨_, rfl⟩
            rw [← hwe0] at D ⊢
            obtain ⟨we, hwe⟩ : ∃ we, we = we0 := ⟨_, rfl⟩
            have KE : Hid (∀ W, Below we.heap.size we W → Below W7.heap.size W7 W) := fun W h => by rw [hwe] at h; exact D.out.trans (h.mono D.out.size)
            have DE : Below we.heap.size we we0 := by rw [hwe]; exact Below.refl _ _
            clear s0 s1 s2 s3 s4 s5 s6 s7 s8 t0 t1 t2 p0 p1 p2 q0 q1 q2
            clear hwe hwe0 D
            go_cut [19, 20] (fun s19 s20 wx => QP we wx s19 s20 (S c) (S d))
            case first =>
              have KQ : Hid (∀ W, Below we.heap.size we W → ((W.cell? ⟨g4, 0, none⟩ = some (.bool b4) ∧ W.cell? ⟨g4, 1, none⟩ = some (.slice A4 n4 c4) ∧ W.cell? ⟨g4, 2, none⟩ = some (.int .i64 x4)) ∧ (W.cell? ⟨g5, 0, none⟩ = some (.bool b5) ∧ W.cell? ⟨g5, 1, none⟩ = some (.slice A5 n5 c5) ∧ W.cell? ⟨g5, 2, none⟩ = some (.int .i64 x5)) ∧ (W.cell? ⟨g6, 0, none⟩ = some (.bool b6) ∧ W.cell? ⟨g6, 1, none⟩ = some (.slice A6 n6 c6) ∧ W.cell? ⟨g6, 2, none⟩ = some (.int .i64 x6)) ∧ (W.cell? ⟨g7, 0, none⟩ = some (.bool b7) ∧ W.cell? ⟨g7, 1, none⟩ = some (.slice A7 n7 c7) ∧ W.cell? ⟨g7, 2, none⟩ = some (.int .i64 x7)) ∧ (W.cell? ⟨w.heap.size, 0, none⟩ = some (.bool b1) ∧ W.cell? ⟨w.heap.size, 1, none⟩ = some (.slice A1 n1 c1) ∧ W.cell? ⟨w.heap.size, 2, none⟩ = some (.int .i64 x1)) ∧ (W.cell? ⟨w.heap.size + 1, 0, none⟩ = some (.bool b2) ∧ W.cell? ⟨w.heap.size + 1, 1, none⟩ = some (.slice A2 n2 c2) ∧ W.cell? ⟨w.heap.size + 1, 2, none⟩ = some (.int .i64 x2)))) := fun W h => (KA.out W (KE.out W h)).1
              have KW : Hid (∀ W, Below we.heap.size we W → Below W0.heap.size W0 W) := fun W h => (KA.out W (KE.out W h)).2.2.2.2.2
              have D := DE.drew
              clear KA KE K0 QCm QAd QAe QNg QMu TX TY TZ NO DE
              (refine wp_region_L (S := fun w' => ((w'.cell? ⟨g4, 0, none⟩ = some (.bool b4) ∧ w'.cell? ⟨g4, 1, none⟩ = some (.slice A4 n4 c4) ∧ w'.cell? ⟨g4, 2, none⟩ = some (.int .i64 x4)) ∧ (w'.cell? ⟨g5, 0, none⟩ = some (.bool b5) ∧ w'.cell? ⟨g5, 1, none⟩ = some (.slice A5 n5 c5) ∧ w'.cell? ⟨g5, 2, none⟩ = some (.int .i64 x5)) ∧ (w'.cell? ⟨g6, 0, none⟩ = some (.bool b6) ∧ w'.cell? ⟨g6, 1, none⟩ = some (.slice A6 n6 c6) ∧ w'.cell? ⟨g6, 2, none⟩ = some (.int .i64 x6)) ∧ (w'.cell? ⟨g7, 0, none⟩ = some (.bool b7) ∧ w'.cell? ⟨g7, 1, none⟩ = some (.slice A7 n7 c7) ∧ w'.cell? ⟨g7, 2, none⟩ = some (.int .i64 x7)) ∧ (w'.cell? ⟨w.heap.size, 0, none⟩ = some (.bool b1) ∧ w'.cell? ⟨w.heap.size, 1, none⟩ = some (.slice A1 n1 c1) ∧ w'.cell? ⟨w.heap.size, 2, none⟩ = some (.int .i64 x1)) ∧ (w'.cell? ⟨w.heap.size + 1, 0, none⟩ = some (.bool b2) ∧ w'.cell? ⟨w.heap.size + 1, 1, none⟩ = some (.slice A2 n2 c2) ∧ w'.cell? ⟨w.heap.size + 1, 2, none⟩ = some (.int .i64 x2)))) (nl := 1000000) (by kernel_rfl) ?_ (fun hHeld => ?_); focus (exact KQ.out _ D))
              (refine wpAnyL_take (i := 0) (oi := _) (v := ?_) rfl (by kernel_rfl) (by kernel_rfl) (by kernel_rfl) (fun _ _ _ h => h) (Or.inl ⟨by first | rfl | kernel_rfl, ?hy35⟩) (by assumption) ?rs35; (case hy35 => (intro w hSw; (try dsimp only at hSw); go_simp; first | done | with_reducible rfl)); case' rs35 => (simp only [List.getElem_toArray, List.getElem_cons_zero, List.getElem_cons_succ, Act.put, List.setIfInBounds_toArray, List.set_cons_zero, List.set_cons_succ])); (refine wpAnyL_take (i := 2) (oi := _) (v := ?_) rfl (by kernel_rfl) (by kernel_rfl) (by kernel_rfl) (fun _ _ _ h => h) (Or.inl ⟨by first | rfl | kernel_rfl, ?hy36⟩) (by assumption) ?rs36; (case hy36 => (intro w hSw; (try dsimp only at hSw); go_simp; first | done | with_reducible rfl)); case' rs36 => (simp only [List.getElem_toArray, List.getElem_cons_zero, List.getElem_cons_succ, Act.put, List.setIfInBounds_toArray, List.set_cons_zero, List.set_cons_succ])); skip
              refine wpAnyL_three (i := 1) (j := 4) (k := 5) (oi := _) (oj := _) (ok := _) (by kernel_rfl) rfl rfl rfl (fun K hK => ?_) (fun K hK => ?_) (fun K hK => ?_)
              · as_aux_lemma =>
                  (clear hHeld; simp only [List.getElem_toArray, List.getElem_cons_zero, List.getElem_cons_succ]; go_simp; (go_at_call 34; (with_reducible refine (QOc.out _ (KW.out _ D)).mono ?_); rintro e w3 ⟨bq, Aq, nq, cq, tq, zq, rfl, hz, y1, y2, y3, y4, hb⟩; have hq := RetS.qs hz y1 y2 y3 y4; have D := D.trans (hb.mono D.size)); refine hK.out _ _ ?_ (fun hHeld => ?_); focus (intro _; exact KQ.out _ D)); have hHeld := hHeld (by decide); clear hK K; (try simp only [Act.put, List.setIfInBounds_toArray, List.set_cons_zero, List.set_cons_succ])
                  clear hz y1 y2 y3 y4 hb
                  refine wpAnyL_three (i := 3) (j := 4) (k := 5) (oi := _) (oj := _) (ok := _) (by kernel_rfl) rfl rfl rfl (fun K hK => ?_) (fun K hK => ?_) (fun K hK => ?_)
                  · as_aux_lemma =>
                      (clear hHeld; simp only [List.getElem_toArray, List.getElem_cons_zero, List.getElem_cons_succ]; go_simp; (go_at_call 34; (with_reducible refine (QOd.out _ (KW.out _ D)).mono ?_); rintro e w4 ⟨br', Ar, nr, cr, tr, zr, rfl, hz', z1, z2, z3, z4, hb⟩; have hr := RetS.qs hz' z1 z2 z3 z4; have hq := hq.below hb; have D := D.trans (hb.mono D.size)); refine hK.out _ _ ?_ (fun hHeld => ?_); focus (intro _; exact KQ.out _ D)); have hHeld := hHeld (by decide); clear hK K; (try simp only [Act.put, List.setIfInBounds_toArray, List.set_cons_zero, List.set_cons_succ])
                      clear hz' z1 z2 z3 z4 hb
                      refine wpAnyL_two (i := 4) (j := 5) (oi := _) (oj := _) (by kernel_rfl) rfl rfl (fun K hK => ?_) (fun K hK => ?_)
                      · as_aux_lemma =>
                          (clear hHeld; simp only [List.getElem_toArray, List.getElem_cons_zero, List.getElem_cons_succ]; go_simp; refine hK.out _ _ ?_ (fun hHeld => ?_); focus (intro _; exact KQ.out _ (D.alloc D.size _))); have hHeld := hHeld (by decide); clear hK K; (try simp only [Act.put, List.setIfInBounds_toArray, List.set_cons_zero, List.set_cons_succ])
                          have G' := Blk.new w4 42 #[.bool false, .slice none 0 0, .int .i64 0]
                          have Gn : we.heap.size ≤ w4.heap.size := D.size
                          have hq := hq.below (hb3 w4 (.cells #[.bool false, .slice none 0 0, .int .i64 0] 42))
                          have hr := hr.below (hb3 w4 (.cells #[.bool false, .slice none 0 0, .int .i64 0] 42))
                          have D1 : Below we.heap.size we (w4.alloc (.cells #[.bool false, .slice none 0 0, .int .i64 0] 42)) := D.alloc D.size (.cells #[.bool false, .slice none 0 0, .int .i64 0] 42)
                          clear D
                          have D := D1
                          clear D1
                          obtain ⟨w8, hw8⟩ : ∃ w8, w4.alloc (.cells #[.bool false, .slice none 0 0, .int .i64 0] 42) = w8 := ⟨_, rfl⟩
                          obtain ⟨Gg, hGg⟩ : ∃ Gg, w4.heap.size = Gg := ⟨_, rfl⟩
                          rw [hw8] at G' D hq hr hHeld ⊢
                          rw [hGg] at G' Gn ⊢
                          have G := G'
                          clear G' hw8 hGg
                          (refine wpAnyL_one (i := 5) (o := _) (by kernel_rfl) rfl (fun K hK => ?_); clear hHeld; simp only [List.getElem_toArray, List.getElem_cons_zero, List.getElem_cons_succ]; go_simp; refine hK.out _ _ ?_ (fun hHeld => ?_); focus (intro _; exact KQ.out _ (D.alloc D.size _))); have hHeld := hHeld (by decide); clear hK K; (try simp only [Act.put, List.setIfInBounds_toArray, List.set_cons_zero, List.set_cons_succ])
                          have H' := Blk.new w8 42 #[.bool false, .slice none 0 0, .int .i64 0]
                          have Hn : we.heap.size ≤ w8.heap.size := D.size
                          have hne : Gg ≠ w8.heap.size := Nat.ne_of_lt G.lt
                          have G := G.alloc (.cells #[.bool false, .slice none 0 0, .int .i64 0] 42)
                          have hq := hq.below (hb3 w8 (.cells #[.bool false, .slice none 0 0, .int .i64 0] 42))
                          have hr := hr.below (hb3 w8 (.cells #[.bool false, .slice none 0 0, .int .i64 0] 42))
                          have D1 : Below we.heap.size we (w8.alloc (.cells #[.bool false, .slice none 0 0, .int .i64 0] 42)) := D.alloc D.size (.cells #[.bool false, .slice none 0 0, .int .i64 0] 42)
                          clear D
                          have D := D1
                          clear D1
                          obtain ⟨w9, hw9⟩ : ∃ w9, w8.alloc (.cells #[.bool false, .slice none 0 0, .int .i64 0] 42) = w9 := ⟨_, rfl⟩
                          obtain ⟨Hg, hHg⟩ : ∃ Hg, w8.heap.size = Hg := ⟨_, rfl⟩
                          rw [hw9] at H' D G hq hr hHeld ⊢
                          rw [hHg] at H' Hn hne ⊢
                          have H := H'
                          clear H' hw9 hHg
                          have X := Lib.hid (qp_set D Gn Hn hne G H hq hr)
                          have D10 := below3q D Gn (.bool bq) (.slice Aq nq cq) (.int .i64 tq)
                          have D11 := below3q D10 Hn (.bool br') (.slice Ar nr cr) (.int .i64 tr)
                          have H1 := far3 H (hne).symm (.bool bq) (.slice Aq nq cq) (.int .i64 tq)
                          have g0 := G.at_ 0 rfl; have g1 := G.at_ 1 rfl; have g2 := G.at_ 2 rfl; have f0 := G.frozen 0; have f1 := G.frozen 1; have f2 := G.frozen 2; have h0 := H1.at_ 0 rfl; have h1 := H1.at_ 1 rfl; have h2 := H1.at_ 2 rfl; have f3 := H1.frozen 0; have f4 := H1.frozen 1; have f5 := H1.frozen 2
                          have D10 := Lib.hid D10; have D11 := Lib.hid D11
                          clear G H H1 D hq hr
                          (refine wpAnyL_one (i := 6) (o := _) (by kernel_rfl) rfl (fun K hK => ?_); clear hHeld; simp only [List.getElem_toArray, List.getElem_cons_zero, List.getElem_cons_succ]; go_simp; refine hK.out _ _ ?_ (fun hHeld => ?_); focus (intro _; exact KQ.out _ D10.out)); have hHeld := hHeld (by decide); clear hK K; (try simp only [Act.put, List.setIfInBounds_toArray, List.set_cons_zero, List.set_cons_succ])
                          (refine wpAnyL_one (i := 7) (o := _) (by kernel_rfl) rfl (fun K hK => ?_); clear hHeld; simp only [List.getElem_toArray, List.getElem_cons_zero, List.getElem_cons_succ]; go_simp; refine hK.out _ _ ?_ (fun hHeld => ?_); focus (intro _; exact KQ.out _ D11.out)); have hHeld := hHeld (by decide); clear hK K; (try simp only [Act.put, List.setIfInBounds_toArray, List.set_cons_zero, List.set_cons_succ])
                          refine wpAnyL_done (by kernel_rfl) ?_ _
                          go_wp2
                          go_meet
                          exact X.out
                      · as_aux_lemma =>
                          (clear hHeld; simp only [List.getElem_toArray, List.getElem_cons_zero, List.getElem_cons_succ]; go_simp; refine hK.out _ _ ?_ (fun hHeld => ?_); focus (intro _; exact KQ.out _ (D.alloc D.size _))); have hHeld := hHeld (by decide); clear hK K; (try simp only [Act.put, List.setIfInBounds_toArray, List.set_cons_zero, List.set_cons_succ])
                          have H' := Blk.new w4 42 #[.bool false, .slice none 0 0, .int .i64 0]
                          have Hn : we.heap.size ≤ w4.heap.size := D.size
                          have hq := hq.below (hb3 w4 (.cells #[.bool false, .slice none 0 0, .int .i64 0] 42))
                          have hr := hr.below (hb3 w4 (.cells #[.bool false, .slice none 0 0, .int .i64 0] 42))
                          have D1 : Below we.heap.size we (w4.alloc (.cells #[.bool false, .slice none 0 0, .int .i64 0] 42)) := D.alloc D.size (.cells #[.bool false, .slice none 0 0, .int .i64 0] 42)
                          clear D
                          have D := D1
                          clear D1
                          obtain ⟨w9, hw9⟩ : ∃ w9, w4.alloc (.cells #[.bool false, .slice none 0 0, .int .i64 0] 42) = w9 := ⟨_, rfl⟩
                          obtain ⟨Hg, hHg⟩ : ∃ Hg, w4.heap.size = Hg := ⟨_, rfl⟩
                          rw [hw9] at H' D hq hr hHeld ⊢
                          rw [hHg] at H' Hn ⊢
                          have H := H'
                          clear H' hw9 hHg
                          (refine wpAnyL_one (i := 4) (o := _) (by kernel_rfl) rfl (fun K hK => ?_); clear hHeld; simp only [List.getElem_toArray, List.getElem_cons_zero, List.getElem_cons_succ]; go_simp; refine hK.out _ _ ?_ (fun hHeld => ?_); focus (intro _; exact KQ.out _ (D.alloc D.size _))); have hHeld := hHeld (by decide); clear hK K; (try simp only [Act.put, List.setIfInBounds_toArray, List.set_cons_zero, List.set_cons_succ])
                          have G' := Blk.new w9 42 #[.bool false, .slice none 0 0, .int .i64 0]
                          have Gn : we.heap.size ≤ w9.heap.size := D.size
                          have hne : Hg ≠ w9.heap.size := Nat.ne_of_lt H.lt
                          have H := H.alloc (.cells #[.bool false, .slice none 0 0, .int .i64 0] 42)
                          have hq := hq.below (hb3 w9 (.cells #[.bool false, .slice none 0 0, .int .i64 0] 42))
                          have hr := hr.below (hb3 w9 (.cells #[.bool false, .slice none 0 0, .int .i64 0] 42))
                          have D1 : Below we.heap.size we (w9.alloc (.cells #[.bool false, .slice none 0 0, .int .i64 0] 42)) := D.alloc D.size (.cells #[.bool false, .slice none 0 0, .int .i64 0] 42)
                          clear D
                          have D := D1
                          clear D1
                          obtain ⟨w8, hw8⟩ : ∃ w8, w9.alloc (.cells #[.bool false, .slice none 0 0, .int .i64 0] 42) = w8 := ⟨_, rfl⟩
                          obtain ⟨Gg, hGg⟩ : ∃ Gg, w9.heap.size = Gg := ⟨_, rfl⟩
                          rw [hw8] at G' D H hq hr hHeld ⊢
                          rw [hGg] at G' Gn hne ⊢
                          have G := G'
                          clear G' hw8 hGg
                          have X := Lib.hid (qp_set D Gn Hn hne.symm G H hq hr)
                          have D10 := below3q D Gn (.bool bq) (.slice Aq nq cq) (.int .i64 tq)
                          have D11 := below3q D10 Hn (.bool br') (.slice Ar nr cr) (.int .i64 tr)
                          have H1 := far3 H (hne.symm).symm (.bool bq) (.slice Aq nq cq) (.int .i64 tq)
                          have g0 := G.at_ 0 rfl; have g1 := G.at_ 1 rfl; have g2 := G.at_ 2 rfl; have f0 := G.frozen 0; have f1 := G.frozen 1; have f2 := G.frozen 2; have h0 := H1.at_ 0 rfl; have h1 := H1.at_ 1 rfl; have h2 := H1.at_ 2 rfl; have f3 := H1.frozen 0; have f4 := H1.frozen 1; have f5 := H1.frozen 2
                          have D10 := Lib.hid D10; have D11 := Lib.hid D11
                          clear G H H1 D hq hr
                          (refine wpAnyL_one (i := 6) (o := _) (by kernel_rfl) rfl (fun K hK => ?_); clear hHeld; simp only [List.getElem_toArray, List.getElem_cons_zero, List.getElem_cons_succ]; go_simp; refine hK.out _ _ ?_ (fun hHeld => ?_); focus (intro _; exact KQ.out _ D10.out)); have hHeld := hHeld (by decide); clear hK K; (try simp only [Act.put, List.setIfInBounds_toArray, List.set_cons_zero, List.set_cons_succ])
                          (refine wpAnyL_one (i := 7) (o := _) (by kernel_rfl) rfl (fun K hK => ?_); clear hHeld; simp only [List.getElem_toArray, List.getElem_cons_zero, List.getElem_cons_succ]; go_simp; refine hK.out _ _ ?_ (fun hHeld => ?_); focus (intro _; exact KQ.out _ D11.out)); have hHeld := hHeld (by decide); clear hK K; (try simp only [Act.put, List.setIfInBounds_toArray, List.set_cons_zero, List.set_cons_succ])
                          refine wpAnyL_done (by kernel_rfl) ?_ _
                          go_wp2
                          go_meet
                          exact X.out
                  · as_aux_lemma =>
                      (clear hHeld; simp only [List.getElem_toArray, List.getElem_cons_zero, List.getElem_cons_succ]; go_simp; refine hK.out _ _ ?_ (fun hHeld => ?_); focus (intro _; exact KQ.out _ (D.alloc D.size _))); have hHeld := hHeld (by decide); clear hK K; (try simp only [Act.put, List.setIfInBounds_toArray, List.set_cons_zero, List.set_cons_succ])
                      have G' := Blk.new w3 42 #[.bool false, .slice none 0 0, .int .i64 0]
                      have Gn : we.heap.size ≤ w3.heap.size := D.size
                      have hq := hq.below (hb3 w3 (.cells #[.bool false, .slice none 0 0, .int .i64 0] 42))
                      have D1 : Below we.heap.size we (w3.alloc (.cells #[.bool false, .slice none 0 0, .int .i64 0] 42)) := D.alloc D.size (.cells #[.bool false, .slice none 0 0, .int .i64 0] 42)
                      clear D
                      have D := D1
                      clear D1
                      obtain ⟨w8, hw8⟩ : ∃ w8, w3.alloc (.cells #[.bool false, .slice none 0 0, .int .i64 0] 42) = w8 := ⟨_, rfl⟩
                      obtain ⟨Gg, hGg⟩ : ∃ Gg, w3.heap.size = Gg := ⟨_, rfl⟩
                      rw [hw8] at G' D hq hHeld ⊢
                      rw [hGg] at G' Gn ⊢
                      have G := G'
                      clear G' hw8 hGg
                      refine wpAnyL_two (i := 3) (j := 5) (oi := _) (oj := _) (by kernel_rfl) rfl rfl (fun K hK => ?_) (fun K hK => ?_)
                      · as_aux_lemma =>
                          (clear hHeld; simp only [List.getElem_toArray, List.getElem_cons_zero, List.getElem_cons_succ]; go_simp; (go_at_call 34; (with_reducible refine (QOd.out _ (KW.out _ D)).mono ?_); rintro e w4 ⟨br', Ar, nr, cr, tr, zr, rfl, hz', z1, z2, z3, z4, hb⟩; have hr := RetS.qs hz' z1 z2 z3 z4; have hq := hq.below hb; have D := D.trans (hb.mono D.size); have G := G.below hb G.lt); refine hK.out _ _ ?_ (fun hHeld => ?_); focus (intro _; exact KQ.out _ D)); have hHeld := hHeld (by decide); clear hK K; (try simp only [Act.put, List.setIfInBounds_toArray, List.set_cons_zero, List.set_cons_succ])
                          clear hz' z1 z2 z3 z4 hb
                          (refine wpAnyL_one (i := 5) (o := _) (by kernel_rfl) rfl (fun K hK => ?_); clear hHeld; simp only [List.getElem_toArray, List.getElem_cons_zero, List.getElem_cons_succ]; go_simp; refine hK.out _ _ ?_ (fun hHeld => ?_); focus (intro _; exact KQ.out _ (D.alloc D.size _))); have hHeld := hHeld (by decide); clear hK K; (try simp only [Act.put, List.setIfInBounds_toArray, List.set_cons_zero, List.set_cons_succ])
                          have H' := Blk.new w4 42 #[.bool false, .slice none 0 0, .int .i64 0]
                          have Hn : we.heap.size ≤ w4.heap.size := D.size
                          have hne : Gg ≠ w4.heap.size := Nat.ne_of_lt G.lt
                          have G := G.alloc (.cells #[.bool false, .slice none 0 0, .int .i64 0] 42)
                          have hq := hq.below (hb3 w4 (.cells #[.bool false, .slice none 0 0, .int .i64 0] 42))
                          have hr := hr.below (hb3 w4 (.cells #[.bool false, .slice none 0 0, .int .i64 0] 42))
                          have D1 : Below we.heap.size we (w4.alloc (.cells #[.bool false, .slice none 0 0, .int .i64 0] 42)) := D.alloc D.size (.cells #[.bool false, .slice none 0 0, .int .i64 0] 42)
                          clear D
                          have D := D1
                          clear D1
                          obtain ⟨w9, hw9⟩ : ∃ w9, w4.alloc (.cells #[.bool false, .slice none 0 0, .int .i64 0] 42) = w9 := ⟨_, rfl⟩
                          obtain ⟨Hg, hHg⟩ : ∃ Hg, w4.heap.size = Hg := ⟨_, rfl⟩
                          rw [hw9] at H' D G hq hr hHeld ⊢
                          rw [hHg] at H' Hn hne ⊢
                          have H := H'
                          clear H' hw9 hHg
                          have X := Lib.hid (qp_set D Gn Hn hne G H hq hr)
                          have D10 := below3q D Gn (.bool bq) (.slice Aq nq cq) (.int .i64 tq)
                          have D11 := below3q D10 Hn (.bool br') (.slice Ar nr cr) (.int .i64 tr)
                          have H1 := far3 H (hne).symm (.bool bq) (.slice Aq nq cq) (.int .i64 tq)
                          have g0 := G.at_ 0 rfl; have g1 := G.at_ 1 rfl; have g2 := G.at_ 2 rfl; have f0 := G.frozen 0; have f1 := G.frozen 1; have f2 := G.frozen 2; have h0 := H1.at_ 0 rfl; have h1 := H1.at_ 1 rfl; have h2 := H1.at_ 2 rfl; have f3 := H1.frozen 0; have f4 := H1.frozen 1; have f5 := H1.frozen 2
                          have D10 := Lib.hid D10; have D11 := Lib.hid D11
                          clear G H H1 D hq hr
                          (refine wpAnyL_one (i := 6) (o := _) (by kernel_rfl) rfl (fun K hK => ?_); clear hHeld; simp only [List.getElem_toArray, List.getElem_cons_zero, List.getElem_cons_succ]; go_simp; refine hK.out _ _ ?_ (fun hHeld => ?_); focus (intro _; exact KQ.out _ D10.out)); have hHeld := hHeld (by decide); clear hK K; (try simp only [Act.put, List.setIfInBounds_toArray, List.set_cons_zero, List.set_cons_succ])
                          (refine wpAnyL_one (i := 7) (o := _) (by kernel_rfl) rfl (fun K hK => ?_); clear hHeld; simp only [List.getElem_toArray, List.getElem_cons_zero, List.getElem_cons_succ]; go_simp; refine hK.out _ _ ?_ (fun hHeld => ?_); focus (intro _; exact KQ.out _ D11.out)); have hHeld := hHeld (by decide); clear hK K; (try simp only [Act.put, List.setIfInBounds_toArray, List.set_cons_zero, List.set_cons_succ])
                          refine wpAnyL_done (by kernel_rfl) ?_ _
                          go_wp2
                          go_meet
                          exact X.out
                      · as_aux_lemma =>
                          (clear hHeld; simp only [List.getElem_toArray, List.getElem_cons_zero, List.getElem_cons_succ]; go_simp; refine hK.out _ _ ?_ (fun hHeld => ?_); focus (intro _; exact KQ.out _ (D.alloc D.size _))); have hHeld := hHeld (by decide); clear hK K; (try simp only [Act.put, List.setIfInBounds_toArray, List.set_cons_zero, List.set_cons_succ])
                          have H' := Blk.new w8 42 #[.bool false, .slice none 0 0, .int .i64 0]
                          have Hn : we.heap.size ≤ w8.heap.size := D.size
                          have hne : Gg ≠ w8.heap.size := Nat.ne_of_lt G.lt
                          have G := G.alloc (.cells #[.bool false, .slice none 0 0, .int .i64 0] 42)
                          have hq := hq.below (hb3 w8 (.cells #[.bool false, .slice none 0 0, .int .i64 0] 42))
                          have D1 : Below we.heap.size we (w8.alloc (.cells #[.bool false, .slice none 0 0, .int .i64 0] 42)) := D.alloc D.size (.cells #[.bool false, .slice none 0 0, .int .i64 0] 42)
                          clear D
                          have D := D1
                          clear D1
                          obtain ⟨w9, hw9⟩ : ∃ w9, w8.alloc (.cells #[.bool false, .slice none 0 0, .int .i64 0] 42) = w9 := ⟨_, rfl⟩
                          obtain ⟨Hg, hHg⟩ : ∃ Hg, w8.heap.size = Hg := ⟨_, rfl⟩
                          rw [hw9] at H' D G hq hHeld ⊢
                          rw [hHg] at H' Hn hne ⊢
                          have H := H'
                          clear H' hw9 hHg
                          (refine wpAnyL_one (i := 3) (o := _) (by kernel_rfl) rfl (fun K hK => ?_); clear hHeld; simp only [List.getElem_toArray, List.getElem_cons_zero, List.getElem_cons_succ]; go_simp; (go_at_call 34; (with_reducible refine (QOd.out _ (KW.out _ D)).mono ?_); rintro e w4 ⟨br', Ar, nr, cr, tr, zr, rfl, hz', z1, z2, z3, z4, hb⟩; have hr := RetS.qs hz' z1 z2 z3 z4; have hq := hq.below hb; have D := D.trans (hb.mono D.size); have G := G.below hb G.lt; have H := H.below hb H.lt); refine hK.out _ _ ?_ (fun hHeld => ?_); focus (intro _; exact KQ.out _ D)); have hHeld := hHeld (by decide); clear hK K; (try simp only [Act.put, List.setIfInBounds_toArray, List.set_cons_zero, List.set_cons_succ])
                          clear hz' z1 z2 z3 z4 hb
                          have X := Lib.hid (qp_set D Gn Hn hne G H hq hr)
                          have D10 := below3q D Gn (.bool bq) (.slice Aq nq cq) (.int .i64 tq)
                          have D11 := below3q D10 Hn (.bool br') (.slice Ar nr cr) (.int .i64 tr)
                          have H1 := far3 H (hne).symm (.bool bq) (.slice Aq nq cq) (.int .i64 tq)
                          have g0 := G.at_ 0 rfl; have g1 := G.at_ 1 rfl; have g2 := G.at_ 2 rfl; have f0 := G.frozen 0; have f1 := G.frozen 1; have f2 := G.frozen 2; have h0 := H1.at_ 0 rfl; have h1 := H1.at_ 1 rfl; have h2 := H1.at_ 2 rfl; have f3 := H1.frozen 0; have f4 := H1.frozen 1; have f5 := H1.frozen 2
                          have D10 := Lib.hid D10; have D11 := Lib.hid D11
                          clear G H H1 D hq hr
                          (refine wpAnyL_one (i := 6) (o := _) (by kernel_rfl) rfl (fun K hK => ?_); clear hHeld; simp only [List.getElem_toArray, List.getElem_cons_zero, List.getElem_cons_succ]; go_simp; refine hK.out _ _ ?_ (fun hHeld => ?_); focus (intro _; exact KQ.out _ D10.out)); have hHeld := hHeld (by decide); clear hK K; (try simp only [Act.put, List.setIfInBounds_toArray, List.set_cons_zero, List.set_cons_succ])
                          (refine wpAnyL_one (i := 7) (o := _) (by kernel_rfl) rfl (fun K hK => ?_); clear hHeld; simp only [List.getElem_toArray, List.getElem_cons_zero, List.getElem_cons_succ]; go_simp; refine hK.out _ _ ?_ (fun hHeld => ?_); focus (intro _; exact KQ.out _ D11.out)); have hHeld := hHeld (by decide); clear hK K; (try simp only [Act.put, List.setIfInBounds_toArray, List.set_cons_zero, List.set_cons_succ])
                          refine wpAnyL_done (by kernel_rfl) ?_ _
                          go_wp2
                          go_meet
                          exact X.out
                  · as_aux_lemma =>
                      (clear hHeld; simp only [List.getElem_toArray, List.getElem_cons_zero, List.getElem_cons_succ]; go_simp; refine hK.out _ _ ?_ (fun hHeld => ?_); focus (intro _; exact KQ.out _ (D.alloc D.size _))); have hHeld := hHeld (by decide); clear hK K; (try simp only [Act.put, List.setIfInBounds_toArray, List.set_cons_zero, List.set_cons_succ])
                      have H' := Blk.new w3 42 #[.bool false, .slice none 0 0, .int .i64 0]
                      have Hn : we.heap.size ≤ w3.heap.size := D.size
                      have hq := hq.below (hb3 w3 (.cells #[.bool false, .slice none 0 0, .int .i64 0] 42))
                      have D1 : Below we.heap.size we (w3.alloc (.cells #[.bool false, .slice none 0 0, .int .i64 0] 42)) := D.alloc D.size (.cells #[.bool false, .slice none 0 0, .int .i64 0] 42)
                      clear D
                      have D := D1
                      clear D1
                      obtain ⟨w9, hw9⟩ : ∃ w9, w3.alloc (.cells #[.bool false, .slice none 0 0, .int .i64 0] 42) = w9 := ⟨_, rfl⟩
                      obtain ⟨Hg, hHg⟩ : ∃ Hg, w3.heap.size = Hg := ⟨_, rfl⟩
                      rw [hw9] at H' D hq hHeld ⊢
                      rw [hHg] at H' Hn ⊢
                      have H := H'
                      clear H' hw9 hHg
                      refine wpAnyL_two (i := 3) (j := 4) (oi := _) (oj := _) (by kernel_rfl) rfl rfl (fun K hK => ?_) (fun K hK => ?_)
                      · as_aux_lemma =>
                          (clear hHeld; simp only [List.getElem_toArray, List.getElem_cons_zero, List.getElem_cons_succ]; go_simp; (go_at_call 34; (with_reducible refine (QOd.out _ (KW.out _ D)).mono ?_); rintro e w4 ⟨br', Ar, nr, cr, tr, zr, rfl, hz', z1, z2, z3, z4, hb⟩; have hr := RetS.qs hz' z1 z2 z3 z4; have hq := hq.below hb; have D := D.trans (hb.mono D.size); have H := H.below hb H.lt); refine hK.out _ _ ?_ (fun hHeld => ?_); focus (intro _; exact KQ.out _ D)); have hHeld := hHeld (by decide); clear hK K; (try simp only [Act.put, List.setIfInBounds_toArray, List.set_cons_zero, List.set_cons_succ])
                          clear hz' z1 z2 z3 z4 hb
                          (refine wpAnyL_one (i := 4) (o := _) (by kernel_rfl) rfl (fun K hK => ?_); clear hHeld; simp only [List.getElem_toArray, List.getElem_cons_zero, List.getElem_cons_succ]; go_simp; refine hK.out _ _ ?_ (fun hHeld => ?_); focus (intro _; exact KQ.out _ (D.alloc D.size _))); have hHeld := hHeld (by decide); clear hK K; (try simp only [Act.put, List.setIfInBounds_toArray, List.set_cons_zero, List.set_cons_succ])
                          have G' := Blk.new w4 42 #[.bool false, .slice none 0 0, .int .i64 0]
                          have Gn : we.heap.size ≤ w4.heap.size := D.size
                          have hne : Hg ≠ w4.heap.size := Nat.ne_of_lt H.lt
                          have H := H.alloc (.cells #[.bool false, .slice none 0 0, .int .i64 0] 42)
                          have hq := hq.below (hb3 w4 (.cells #[.bool false, .slice none 0 0, .int .i64 0] 42))
                          have hr := hr.below (hb3 w4 (.cells #[.bool false, .slice none 0 0, .int .i64 0] 42))
                          have D1 : Below we.heap.size we (w4.alloc (.cells #[.bool false, .slice none 0 0, .int .i64 0] 42)) := D.alloc D.size (.cells #[.bool false, .slice none 0 0, .int .i64 0] 42)
                          clear D
                          have D := D1
                          clear D1
                          obtain ⟨w8, hw8⟩ : ∃ w8, w4.alloc (.cells #[.bool false, .slice none 0 0, .int .i64 0] 42) = w8 := ⟨_, rfl⟩
                          obtain ⟨Gg, hGg⟩ : ∃ Gg, w4.heap.size = Gg := ⟨_, rfl⟩
                          rw [hw8] at G' D H hq hr hHeld ⊢
                          rw [hGg] at G' Gn hne ⊢
                          have G := G'
                          clear G' hw8 hGg
                          have X := Lib.hid (qp_set D Gn Hn hne.symm G H hq hr)
                          have D10 := below3q D Gn (.bool bq) (.slice Aq nq cq) (.int .i64 tq)
                          have D11 := below3q D10 Hn (.bool br') (.slice Ar nr cr) (.int .i64 tr)
                          have H1 := far3 H (hne.symm).symm (.bool bq) (.slice Aq nq cq) (.int .i64 tq)
                          have g0 := G.at_ 0 rfl; have g1 := G.at_ 1 rfl; have g2 := G.at_ 2 rfl; have f0 := G.frozen 0; have f1 := G.frozen 1; have f2 := G.frozen 2; have h0 := H1.at_ 0 rfl; have h1 := H1.at_ 1 rfl; have h2 := H1.at_ 2 rfl; have f3 := H1.frozen 0; have f4 := H1.frozen 1; have f5 := H1.frozen 2
                          have D10 := Lib.hid D10; have D11 := Lib.hid D11
                          clear G H H1 D hq hr
                          (refine wpAnyL_one (i := 6) (o := _) (by kernel_rfl) rfl (fun K hK => ?_); clear hHeld; simp only [List.getElem_toArray, List.getElem_cons_zero, List.getElem_cons_succ]; go_simp; refine hK.out _ _ ?_ (fun hHeld => ?_); focus (intro _; exact KQ.out _ D10.out)); have hHeld := hHeld (by decide); clear hK K; (try simp only [Act.put, List.setIfInBounds_toArray, List.set_cons_zero, List.set_cons_succ])
                          (refine wpAnyL_one (i := 7) (o := _) (by kernel_rfl) rfl (fun K hK => ?_); clear hHeld; simp only [List.getElem_toArray, List.getElem_cons_zero, List.getElem_cons_succ]; go_simp; refine hK.out _ _ ?_ (fun hHeld => ?_); focus (intro _; exact KQ.out _ D11.out)); have hHeld := hHeld (by decide); clear hK K; (try simp only [Act.put, List.setIfInBounds_toArray, List.set_cons_zero, List.set_cons_succ])
                          refine wpAnyL_done (by kernel_rfl) ?_ _
                          go_wp2
                          go_meet
                          exact X.out
                      · as_aux_lemma =>
                          (clear hHeld; simp only [List.getElem_toArray, List.getElem_cons_zero, List.getElem_cons_succ]; go_simp; refine hK.out _ _ ?_ (fun hHeld => ?_); focus (intro _; exact KQ.out _ (D.alloc D.size _))); have hHeld := hHeld (by decide); clear hK K; (try simp only [Act.put, List.setIfInBounds_toArray, List.set_cons_zero, List.set_cons_succ])
                          have G' := Blk.new w9 42 #[.bool false, .slice none 0 0, .int .i64 0]
                          have Gn : we.heap.size ≤ w9.heap.size := D.size
                          have hne : Hg ≠ w9.heap.size := Nat.ne_of_lt H.lt
                          have H := H.alloc (.cells #[.bool false, .slice none 0 0, .int .i64 0] 42)
                          have hq := hq.below (hb3 w9 (.cells #[.bool false, .slice none 0 0, .int .i64 0] 42))
                          have D1 : Below we.heap.size we (w9.alloc (.cells #[.bool false, .slice none 0 0, .int .i64 0] 42)) := D.alloc D.size (.cells #[.bool false, .slice none 0 0, .int .i64 0] 42)
                          clear D
                          have D := D1
                          clear D1
                          obtain ⟨w8, hw8⟩ : ∃ w8, w9.alloc (.cells #[.bool false, .slice none 0 0, .int .i64 0] 42) = w8 := ⟨_, rfl⟩
                          obtain ⟨Gg, hGg⟩ : ∃ Gg, w9.heap.size = Gg := ⟨_, rfl⟩
                          rw [hw8] at G' D H hq hHeld ⊢
                          rw [hGg] at G' Gn hne ⊢
                          have G := G'
                          clear G' hw8 hGg
                          (refine wpAnyL_one (i := 3) (o := _) (by kernel_rfl) rfl (fun K hK => ?_); clear hHeld; simp only [List.getElem_toArray, List.getElem_cons_zero, List.getElem_cons_succ]; go_simp; (go_at_call 34; (with_reducible refine (QOd.out _ (KW.out _ D)).mono ?_); rintro e w4 ⟨br', Ar, nr, cr, tr, zr, rfl, hz', z1, z2, z3, z4, hb⟩; have hr := RetS.qs hz' z1 z2 z3 z4; have hq := hq.below hb; have D := D.trans (hb.mono D.size); have G := G.below hb G.lt; have H := H.below hb H.lt); refine hK.out _ _ ?_ (fun hHeld => ?_); focus (intro _; exact KQ.out _ D)); have hHeld := hHeld (by decide); clear hK K; (try simp only [Act.put, List.setIfInBounds_toArray, List.set_cons_zero, List.set_cons_succ])
                          clear hz' z1 z2 z3 z4 hb
                          have X := Lib.hid (qp_set D Gn Hn hne.symm G H hq hr)
                          have D10 := below3q D Gn (.bool bq) (.slice Aq nq cq) (.int .i64 tq)
                          have D11 := below3q D10 Hn (.bool br') (.slice Ar nr cr) (.int .i64 tr)
                          have H1 := far3 H (hne.symm).symm (.bool bq) (.slice Aq nq cq) (.int .i64 tq)
                          have g0 := G.at_ 0 rfl; have g1 := G.at_ 1 rfl; have g2 := G.at_ 2 rfl; have f0 := G.frozen 0; have f1 := G.frozen 1; have f2 := G.frozen 2; have h0 := H1.at_ 0 rfl; have h1 := H1.at_ 1 rfl; have h2 := H1.at_ 2 rfl; have f3 := H1.frozen 0; have f4 := H1.frozen 1; have f5 := H1.frozen 2
                          have D10 := Lib.hid D10; have D11 := Lib.hid D11
                          clear G H H1 D hq hr
                          (refine wpAnyL_one (i := 6) (o := _) (by kernel_rfl) rfl (fun K hK => ?_); clear hHeld; simp only [List.getElem_toArray, List.getElem_cons_zero, List.getElem_cons_succ]; go_simp; refine hK.out _ _ ?_ (fun hHeld => ?_); focus (intro _; exact KQ.out _ D10.out)); have hHeld := hHeld (by decide); clear hK K; (try simp only [Act.put, List.setIfInBounds_toArray, List.set_cons_zero, List.set_cons_succ])
                          (refine wpAnyL_one (i := 7) (o := _) (by kernel_rfl) rfl (fun K hK => ?_); clear hHeld; simp only [List.getElem_toArray, List.getElem_cons_zero, List.getElem_cons_succ]; go_simp; refine hK.out _ _ ?_ (fun hHeld => ?_); focus (intro _; exact KQ.out _ D11.out)); have hHeld := hHeld (by decide); clear hK K; (try simp only [Act.put, List.setIfInBounds_toArray, List.set_cons_zero, List.set_cons_succ])
                          refine wpAnyL_done (by kernel_rfl) ?_ _
                          go_wp2
                          go_meet
                          exact X.out
              · as_aux_lemma =>
                  (clear hHeld; simp only [List.getElem_toArray, List.getElem_cons_zero, List.getElem_cons_succ]; go_simp; refine hK.out _ _ ?_ (fun hHeld => ?_); focus (intro _; exact KQ.out _ (D.alloc D.size _))); have hHeld := hHeld (by decide); clear hK K; (try simp only [Act.put, List.setIfInBounds_toArray, List.set_cons_zero, List.set_cons_succ])
                  have G' := Blk.drew (Blk.new we0 42 #[.bool false, .slice none 0 0, .int .i64 0])
                  have Gn : we.heap.size ≤ we0.heap.size := D.size
                  have D1 : Below we.heap.size we ((we0.alloc (.cells #[.bool false, .slice none 0 0, .int .i64 0] 42)).drew) := D.alloc D.size (.cells #[.bool false, .slice none 0 0, .int .i64 0] 42)
                  clear D
                  have D := D1
                  clear D1
                  obtain ⟨w8, hw8⟩ : ∃ w8, (we0.alloc (.cells #[.bool false, .slice none 0 0, .int .i64 0] 42)).drew = w8 := ⟨_, rfl⟩
                  obtain ⟨Gg, hGg⟩ : ∃ Gg, we0.heap.size = Gg := ⟨_, rfl⟩
                  rw [hw8] at G' D hHeld ⊢
                  rw [hGg] at G' Gn ⊢
                  have G := G'
                  clear G' hw8 hGg
                  refine wpAnyL_two (i := 1) (j := 5) (oi := _) (oj := _) (by kernel_rfl) rfl rfl (fun K hK => ?_) (fun K hK => ?_)
                  · as_aux_lemma =>
                      (clear hHeld; simp only [List.getElem_toArray, List.getElem_cons_zero, List.getElem_cons_succ]; go_simp; (go_at_call 34; (with_reducible refine (QOc.out _ (KW.out _ D)).mono ?_); rintro e w3 ⟨bq, Aq, nq, cq, tq, zq, rfl, hz, y1, y2, y3, y4, hb⟩; have hq := RetS.qs hz y1 y2 y3 y4; have D := D.trans (hb.mono D.size); have G := G.below hb G.lt); refine hK.out _ _ ?_ (fun hHeld => ?_); focus (intro _; exact KQ.out _ D)); have hHeld := hHeld (by decide); clear hK K; (try simp only [Act.put, List.setIfInBounds_toArray, List.set_cons_zero, List.set_cons_succ])
                      clear hz y1 y2 y3 y4 hb
                      refine wpAnyL_two (i := 3) (j := 5) (oi := _) (oj := _) (by kernel_rfl) rfl rfl (fun K hK => ?_) (fun K hK => ?_)
                      · as_aux_lemma =>
                          (clear hHeld; simp only [List.getElem_toArray, List.getElem_cons_zero, List.getElem_cons_succ]; go_simp; (go_at_call 34; (with_reducible refine (QOd.out _ (KW.out _ D)).mono ?_); rintro e w4 ⟨br', Ar, nr, cr, tr, zr, rfl, hz', z1, z2, z3, z4, hb⟩; have hr := RetS.qs hz' z1 z2 z3 z4; have hq := hq.below hb; have D := D.trans (hb.mono D.size); have G := G.below hb G.lt); refine hK.out _ _ ?_ (fun hHeld => ?_); focus (intro _; exact KQ.out _ D)); have hHeld := hHeld (by decide); clear hK K; (try simp only [Act.put, List.setIfInBounds_toArray, List.set_cons_zero, List.set_cons_succ])
                          clear hz' z1 z2 z3 z4 hb
                          (refine wpAnyL_one (i := 5) (o := _) (by kernel_rfl) rfl (fun K hK => ?_); clear hHeld; simp only [List.getElem_toArray, List.getElem_cons_zero, List.getElem_cons_succ]; go_simp; refine hK.out _ _ ?_ (fun hHeld => ?_); focus (intro _; exact KQ.out _ (D.alloc D.size _))); have hHeld := hHeld (by decide); clear hK K; (try simp only [Act.put, List.setIfInBounds_toArray, List.set_cons_zero, List.set_cons_succ])
                          have H' := Blk.new w4 42 #[.bool false, .slice none 0 0, .int .i64 0]
                          have Hn : we.heap.size ≤ w4.heap.size := D.size
                          have hne : Gg ≠ w4.heap.size := Nat.ne_of_lt G.lt
                          have G := G.alloc (.cells #[.bool false, .slice none 0 0, .int .i64 0] 42)
                          have hq := hq.below (hb3 w4 (.cells #[.bool false, .slice none 0 0, .int .i64 0] 42))
                          have hr := hr.below (hb3 w4 (.cells #[.bool false, .slice none 0 0, .int .i64 0] 42))
                          have D1 : Below we.heap.size we (w4.alloc (.cells #[.bool false, .slice none 0 0, .int .i64 0] 42)) := D.alloc D.size (.cells #[.bool false, .slice none 0 0, .int .i64 0] 42)
                          clear D
                          have D := D1
                          clear D1
                          obtain ⟨w9, hw9⟩ : ∃ w9, w4.alloc (.cells #[.bool false, .slice none 0 0, .int .i64 0] 42) = w9 := ⟨_, rfl⟩
                          obtain ⟨Hg, hHg⟩ : ∃ Hg, w4.heap.size = Hg := ⟨_, rfl⟩
                          rw [hw9] at H' D G hq hr hHeld ⊢
                          rw [hHg] at H' Hn hne ⊢
                          have H := H'
                          clear H' hw9 hHg
                          have X := Lib.hid (qp_set D Gn Hn hne G H hq hr)
                          have D10 := below3q D Gn (.bool bq) (.slice Aq nq cq) (.int .i64 tq)
                          have D11 := below3q D10 Hn (.bool br') (.slice Ar nr cr) (.int .i64 tr)
                          have H1 := far3 H (hne).symm (.bool bq) (.slice Aq nq cq) (.int .i64 tq)
                          have g0 := G.at_ 0 rfl; have g1 := G.at_ 1 rfl; have g2 := G.at_ 2 rfl; have f0 := G.frozen 0; have f1 := G.frozen 1; have f2 := G.frozen 2; have h0 := H1.at_ 0 rfl; have h1 := H1.at_ 1 rfl; have h2 := H1.at_ 2 rfl; have f3 := H1.frozen 0; have f4 := H1.frozen 1; have f5 := H1.frozen 2
                          have D10 := Lib.hid D10; have D11 := Lib.hid D11
                          clear G H H1 D hq hr
                          (refine wpAnyL_one (i := 6) (o := _) (by kernel_rfl) rfl (fun K hK => ?_); clear hHeld; simp only [List.getElem_toArray, List.getElem_cons_zero, List.getElem_cons_succ]; go_simp; refine hK.out _ _ ?_ (fun hHeld => ?_); focus (intro _; exact KQ.out _ D10.out)); have hHeld := hHeld (by decide); clear hK K; (try simp only [Act.put, List.setIfInBounds_toArray, List.set_cons_zero, List.set_cons_succ])
                          (refine wpAnyL_one (i := 7) (o := _) (by kernel_rfl) rfl (fun K hK => ?_); clear hHeld; simp only [List.getElem_toArray, List.getElem_cons_zero, List.getElem_cons_succ]; go_simp; refine hK.out _ _ ?_ (fun hHeld => ?_); focus (intro _; exact KQ.out _ D11.out)); have hHeld := hHeld (by decide); clear hK K; (try simp only [Act.put, List.setIfInBounds_toArray, List.set_cons_zero, List.set_cons_succ])
                          refine wpAnyL_done (by kernel_rfl) ?_ _
                          go_wp2
                          go_meet
                          exact X.out
                      · as_aux_lemma =>
                          (clear hHeld; simp only [List.getElem_toArray, List.getElem_cons_zero, List.getElem_cons_succ]; go_simp; refine hK.out _ _ ?_ (fun hHeld => ?_); focus (intro _; exact KQ.out _ (D.alloc D.size _))); have hHeld := hHeld (by decide); clear hK K; (try simp only [Act.put, List.setIfInBounds_toArray, List.set_cons_zero, List.set_cons_succ])
                          have H' := Blk.new w3 42 #[.bool false, .slice none 0 0, .int .i64 0]
                          have Hn : we.heap.size ≤ w3.heap.size := D.size
                          have hne : Gg ≠ w3.heap.size := Nat.ne_of_lt G.lt
                          have G := G.alloc (.cells #[.bool false, .slice none 0 0, .int .i64 0] 42)
                          have hq := hq.below (hb3 w3 (.cells #[.bool false, .slice none 0 0, .int .i64 0] 42))
                          have D1 : Below we.heap.size we (w3.alloc (.cells #[.bool false, .slice none 0 0, .int .i64 0] 42)) := D.alloc D.size (.cells #[.bool false, .slice none 0 0, .int .i64 0] 42)
                          clear D
                          have D := D1
                          clear D1
                          obtain ⟨w9, hw9⟩ : ∃ w9, w3.alloc (.cells #[.bool false, .slice none 0 0, .int .i64 0] 42) = w9 := ⟨_, rfl⟩
                          obtain ⟨Hg, hHg⟩ : ∃ Hg, w3.heap.size = Hg := ⟨_, rfl⟩
                          rw [hw9] at H' D G hq hHeld ⊢
                          rw [hHg] at H' Hn hne ⊢
                          have H := H'
                          clear H' hw9 hHg
                          (refine wpAnyL_one (i := 3) (o := _) (by kernel_rfl) rfl (fun K hK => ?_); clear hHeld; simp only [List.getElem_toArray, List.getElem_cons_zero, List.getElem_cons_succ]; go_simp; (go_at_call 34; (with_reducible refine (QOd.out _ (KW.out _ D)).mono ?_); rintro e w4 ⟨br', Ar, nr, cr, tr, zr, rfl, hz', z1, z2, z3, z4, hb⟩; have hr := RetS.qs hz' z1 z2 z3 z4; have hq := hq.below hb; have D := D.trans (hb.mono D.size); have G := G.below hb G.lt; have H := H.below hb H.lt); refine hK.out _ _ ?_ (fun hHeld => ?_); focus (intro _; exact KQ.out _ D)); have hHeld := hHeld (by decide); clear hK K; (try simp only [Act.put, List.setIfInBounds_toArray, List.set_cons_zero, List.set_cons_succ])
                          clear hz' z1 z2 z3 z4 hb
                          have X := Lib.hid (qp_set D Gn Hn hne G H hq hr)
                          have D10 := below3q D Gn (.bool bq) (.slice Aq nq cq) (.int .i64 tq)
                          have D11 := below3q D10 Hn (.bool br') (.slice Ar nr cr) (.int .i64 tr)
                          have H1 := far3 H (hne).symm (.bool bq) (.slice Aq nq cq) (.int .i64 tq)
                          have g0 := G.at_ 0 rfl; have g1 := G.at_ 1 rfl; have g2 := G.at_ 2 rfl; have f0 := G.frozen 0; have f1 := G.frozen 1; have f2 := G.frozen 2; have h0 := H1.at_ 0 rfl; have h1 := H1.at_ 1 rfl; have h2 := H1.at_ 2 rfl; have f3 := H1.frozen 0; have f4 := H1.frozen 1; have f5 := H1.frozen 2
                          have D10 := Lib.hid D10; have D11 := Lib.hid D11
                          clear G H H1 D hq hr
                          (refine wpAnyL_one (i := 6) (o := _) (by kernel_rfl) rfl (fun K hK => ?_); clear hHeld; simp only [List.getElem_toArray, List.getElem_cons_zero, List.getElem_cons_succ]; go_simp; refine hK.out _ _ ?_ (fun hHeld => ?_); focus (intro _; exact KQ.out _ D10.out)); have hHeld := hHeld (by decide); clear hK K; (try simp only [Act.put, List.setIfInBounds_toArray, List.set_cons_zero, List.set_cons_succ])
                          (refine wpAnyL_one (i := 7) (o := _) (by kernel_rfl) rfl (fun K hK => ?_); clear hHeld; simp only [List.getElem_toArray, List.getElem_cons_zero, List.getElem_cons_succ]; go_simp; refine hK.out _ _ ?_ (fun hHeld => ?_); focus (intro _; exact KQ.out _ D11.out)); have hHeld := hHeld (by decide); clear hK K; (try simp only [Act.put, List.setIfInBounds_toArray, List.set_cons_zero, List.set_cons_succ])
                          refine wpAnyL_done (by kernel_rfl) ?_ _
                          go_wp2
                          go_meet
                          exact X.out
                  · as_aux_lemma =>
                      (clear hHeld; simp only [List.getElem_toArray, List.getElem_cons_zero, List.getElem_cons_succ]; go_simp; refine hK.out _ _ ?_ (fun hHeld => ?_); focus (intro _; exact KQ.out _ (D.alloc D.size _))); have hHeld := hHeld (by decide); clear hK K; (try simp only [Act.put, List.setIfInBounds_toArray, List.set_cons_zero, List.set_cons_succ])
                      have H' := Blk.new w8 42 #[.bool false, .slice none 0 0, .int .i64 0]
                      have Hn : we.heap.size ≤ w8.heap.size := D.size
                      have hne : Gg ≠ w8.heap.size := Nat.ne_of_lt G.lt
                      have G := G.alloc (.cells #[.bool false, .slice none 0 0, .int .i64 0] 42)
                      have D1 : Below we.heap.size we (w8.alloc (.cells #[.bool false, .slice none 0 0, .int .i64 0] 42)) := D.alloc D.size (.cells #[.bool false, .slice none 0 0, .int .i64 0] 42)
                      clear D
                      have D := D1
                      clear D1
                      obtain ⟨w9, hw9⟩ : ∃ w9, w8.alloc (.cells #[.bool false, .slice none 0 0, .int .i64 0] 42) = w9 := ⟨_, rfl⟩
                      obtain ⟨Hg, hHg⟩ : ∃ Hg, w8.heap.size = Hg := ⟨_, rfl⟩
                      rw [hw9] at H' D G hHeld ⊢
                      rw [hHg] at H' Hn hne ⊢
                      have H := H'
                      clear H' hw9 hHg
                      (refine wpAnyL_one (i := 1) (o := _) (by kernel_rfl) rfl (fun K hK => ?_); clear hHeld; simp only [List.getElem_toArray, List.getElem_cons_zero, List.getElem_cons_succ]; go_simp; (go_at_call 34; (with_reducible refine (QOc.out _ (KW.out _ D)).mono ?_); rintro e w3 ⟨bq, Aq, nq, cq, tq, zq, rfl, hz, y1, y2, y3, y4, hb⟩; have hq := RetS.qs hz y1 y2 y3 y4; have D := D.trans (hb.mono D.size); have G := G.below hb G.lt; have H := H.below hb H.lt); refine hK.out _ _ ?_ (fun hHeld => ?_); focus (intro _; exact KQ.out _ D)); have hHeld := hHeld (by decide); clear hK K; (try simp only [Act.put, List.setIfInBounds_toArray, List.set_cons_zero, List.set_cons_succ])
                      clear hz y1 y2 y3 y4 hb
                      (refine wpAnyL_one (i := 3) (o := _) (by kernel_rfl) rfl (fun K hK => ?_); clear hHeld; simp only [List.getElem_toArray, List.getElem_cons_zero, List.getElem_cons_succ]; go_simp; (go_at_call 34; (with_reducible refine (QOd.out _ (KW.out _ D)).mono ?_); rintro e w4 ⟨br', Ar, nr, cr, tr, zr, rfl, hz', z1, z2, z3, z4, hb⟩; have hr := RetS.qs hz' z1 z2 z3 z4; have hq := hq.below hb; have D := D.trans (hb.mono D.size); have G := G.below hb G.lt; have H := H.below hb H.lt); refine hK.out _ _ ?_ (fun hHeld => ?_); focus (intro _; exact KQ.out _ D)); have hHeld := hHeld (by decide); clear hK K; (try simp only [Act.put, List.setIfInBounds_toArray, List.set_cons_zero, List.set_cons_succ])
                      clear hz' z1 z2 z3 z4 hb
                      have X := Lib.hid (qp_set D Gn Hn hne G H hq hr)
                      have D10 := below3q D Gn (.bool bq) (.slice Aq nq cq) (.int .i64 tq)
                      have D11 := below3q D10 Hn (.bool br') (.slice Ar nr cr) (.int .i64 tr)
                      have H1 := far3 H (hne).symm (.bool bq) (.slice Aq nq cq) (.int .i64 tq)
                      have g0 := G.at_ 0 rfl; have g1 := G.at_ 1 rfl; have g2 := G.at_ 2 rfl; have f0 := G.frozen 0; have f1 := G.frozen 1; have f2 := G.frozen 2; have h0 := H1.at_ 0 rfl; have h1 := H1.at_ 1 rfl; have h2 := H1.at_ 2 rfl; have f3 := H1.frozen 0; have f4 := H1.frozen 1; have f5 := H1.frozen 2
                      have D10 := Lib.hid D10; have D11 := Lib.hid D11
                      clear G H H1 D hq hr
                      (refine wpAnyL_one (i := 6) (o := _) (by kernel_rfl) rfl (fun K hK => ?_); clear hHeld; simp only [List.getElem_toArray, List.getElem_cons_zero, List.getElem_cons_succ]; go_simp; refine hK.out _ _ ?_ (fun hHeld => ?_); focus (intro _; exact KQ.out _ D10.out)); have hHeld := hHeld (by decide); clear hK K; (try simp only [Act.put, List.setIfInBounds_toArray, List.set_cons_zero, List.set_cons_succ])
                      (refine wpAnyL_one (i := 7) (o := _) (by kernel_rfl) rfl (fun K hK => ?_); clear hHeld; simp only [List.getElem_toArray, List.getElem_cons_zero, List.getElem_cons_succ]; go_simp; refine hK.out _ _ ?_ (fun hHeld => ?_); focus (intro _; exact KQ.out _ D11.out)); have hHeld := hHeld (by decide); clear hK K; (try simp only [Act.put, List.setIfInBounds_toArray, List.set_cons_zero, List.set_cons_succ])
                      refine wpAnyL_done (by kernel_rfl) ?_ _
                      go_wp2
                      go_meet
                      exact X.out
              · as_aux_lemma =>
                  (clear hHeld; simp only [List.getElem_toArray, List.getElem_cons_zero, List.getElem_cons_succ]; go_simp; refine hK.out _ _ ?_ (fun hHeld => ?_); focus (intro _; exact KQ.out _ (D.alloc D.size _))); have hHeld := hHeld (by decide); clear hK K; (try simp only [Act.put, List.setIfInBounds_toArray, List.set_cons_zero, List.set_cons_succ])
                  have H' := Blk.drew (Blk.new we0 42 #[.bool false, .slice none 0 0, .int .i64 0])
                  have Hn : we.heap.size ≤ we0.heap.size := D.size
                  have D1 : Below we.heap.size we ((we0.alloc (.cells #[.bool false, .slice none 0 0, .int .i64 0] 42)).drew) := D.alloc D.size (.cells #[.bool false, .slice none 0 0, .int .i64 0] 42)
                  clear D
                  have D := D1
                  clear D1
                  obtain ⟨w9, hw9⟩ : ∃ w9, (we0.alloc (.cells #[.bool false, .slice none 0 0, .int .i64 0] 42)).drew = w9 := ⟨_, rfl⟩
                  obtain ⟨Hg, hHg⟩ : ∃ Hg, we0.heap.size = Hg := ⟨_, rfl⟩
                  rw [hw9] at H' D hHeld ⊢
                  rw [hHg] at H' Hn ⊢
                  have H := H'
                  clear H' hw9 hHg
                  refine wpAnyL_two (i := 1) (j := 4) (oi := _) (oj := _) (by kernel_rfl) rfl rfl (fun K hK => ?_) (fun K hK => ?_)
                  · as_aux_lemma =>
                      (clear hHeld; simp only [List.getElem_toArray, List.getElem_cons_zero, List.getElem_cons_succ]; go_simp; (go_at_call 34; (with_reducible refine (QOc.out _ (KW.out _ D)).mono ?_); rintro e w3 ⟨bq, Aq, nq, cq, tq, zq, rfl, hz, y1, y2, y3, y4, hb⟩; have hq := RetS.qs hz y1 y2 y3 y4; have D := D.trans (hb.mono D.size); have H := H.below hb H.lt); refine hK.out _ _ ?_ (fun hHeld => ?_); focus (intro _; exact KQ.out _ D)); have hHeld := hHeld (by decide); clear hK K; (try simp only [Act.put, List.setIfInBounds_toArray, List.set_cons_zero, List.set_cons_succ])
                      clear hz y1 y2 y3 y4 hb
                      refine wpAnyL_two (i := 3) (j := 4) (oi := _) (oj := _) (by kernel_rfl) rfl rfl (fun K hK => ?_) (fun K hK => ?_)
                      · as_aux_lemma =>
                          (clear hHeld; simp only [List.getElem_toArray, List.getElem_cons_zero, List.getElem_cons_succ]; go_simp; (go_at_call 34; (with_reducible refine (QOd.out _ (KW.out _ D)).mono ?_); rintro e w4 ⟨br', Ar, nr, cr, tr, zr, rfl, hz', z1, z2, z3, z4, hb⟩; have hr := RetS.qs hz' z1 z2 z3 z4; have hq := hq.below hb; have D := D.trans (hb.mono D.size); have H := H.below hb H.lt); refine hK.out _ _ ?_ (fun hHeld => ?_); focus (intro _; exact KQ.out _ D)); have hHeld := hHeld (by decide); clear hK K; (try simp only [Act.put, List.setIfInBounds_toArray, List.set_cons_zero, List.set_cons_succ])
                          clear hz' z1 z2 z3 z4 hb
                          (refine wpAnyL_one (i := 4) (o := _) (by kernel_rfl) rfl (fun K hK => ?_); clear hHeld; simp only [List.getElem_toArray, List.getElem_cons_zero, List.getElem_cons_succ]; go_simp; refine hK.out _ _ ?_ (fun hHeld => ?_); focus (intro _; exact KQ.out _ (D.alloc D.size _))); have hHeld := hHeld (by decide); clear hK K; (try simp only [Act.put, List.setIfInBounds_toArray, List.set_cons_zero, List.set_cons_succ])
                          have G' := Blk.new w4 42 #[.bool false, .slice none 0 0, .int .i64 0]
                          have Gn : we.heap.size ≤ w4.heap.size := D.size
                          have hne : Hg ≠ w4.heap.size := Nat.ne_of_lt H.lt
                          have H := H.alloc (.cells #[.bool false, .slice none 0 0, .int .i64 0] 42)
                          have hq := hq.below (hb3 w4 (.cells #[.bool false, .slice none 0 0, .int .i64 0] 42))
                          have hr := hr.below (hb3 w4 (.cells #[.bool false, .slice none 0 0, .int .i64 0] 42))
                          have D1 : Below we.heap.size we (w4.alloc (.cells #[.bool false, .slice none 0 0, .int .i64 0] 42)) := D.alloc D.size (.cells #[.bool false, .slice none 0 0, .int .i64 0] 42)
                          clear D
                          have D := D1
                          clear D1
                          obtain ⟨w8, hw8⟩ : ∃ w8, w4.alloc (.cells #[.bool false, .slice none 0 0, .int .i64 0] 42) = w8 := ⟨_, rfl⟩
                          obtain ⟨Gg, hGg⟩ : ∃ Gg, w4.heap.size = Gg := ⟨_, rfl⟩
                          rw [hw8] at G' D H hq hr hHeld ⊢
                          rw [hGg] at G' Gn hne ⊢
                          have G := G'
                          clear G' hw8 hGg
                          have X := Lib.hid (qp_set D Gn Hn hne.symm G H hq hr)
                          have D10 := below3q D Gn (.bool bq) (.slice Aq nq cq) (.int .i64 tq)
                          have D11 := below3q D10 Hn (.bool br') (.slice Ar nr cr) (.int .i64 tr)
                          have H1 := far3 H (hne.symm).symm (.bool bq) (.slice Aq nq cq) (.int .i64 tq)
                          have g0 := G.at_ 0 rfl; have g1 := G.at_ 1 rfl; have g2 := G.at_ 2 rfl; have f0 := G.frozen 0; have f1 := G.frozen 1; have f2 := G.frozen 2; have h0 := H1.at_ 0 rfl; have h1 := H1.at_ 1 rfl; have h2 := H1.at_ 2 rfl; have f3 := H1.frozen 0; have f4 := H1.frozen 1; have f5 := H1.frozen 2
                          have D10 := Lib.hid D10; have D11 := Lib.hid D11
                          clear G H H1 D hq hr
                          (refine wpAnyL_one (i := 6) (o := _) (by kernel_rfl) rfl (fun K hK => ?_); clear hHeld; simp only [List.getElem_toArray, List.getElem_cons_zero, List.getElem_cons_succ]; go_simp; refine hK.out _ _ ?_ (fun hHeld => ?_); focus (intro _; exact KQ.out _ D10.out)); have hHeld := hHeld (by decide); clear hK K; (try simp only [Act.put, List.setIfInBounds_toArray, List.set_cons_zero, List.set_cons_succ])
                          (refine wpAnyL_one (i := 7) (o := _) (by kernel_rfl) rfl (fun K hK => ?_); clear hHeld; simp only [List.getElem_toArray, List.getElem_cons_zero, List.getElem_cons_succ]; go_simp; refine hK.out _ _ ?_ (fun hHeld => ?_); focus (intro _; exact KQ.out _ D11.out)); have hHeld := hHeld (by decide); clear hK K; (try simp only [Act.put, List.setIfInBounds_toArray, List.set_cons_zero, List.set_cons_succ])
                          refine wpAnyL_done (by kernel_rfl) ?_ _
                          go_wp2
                          go_meet
                          exact X.out
                      · as_aux_lemma =>
                          (clear hHeld; simp only [List.getElem_toArray, List.getElem_cons_zero, List.getElem_cons_succ]; go_simp; refine hK.out _ _ ?_ (fun hHeld => ?_); focus (intro _; exact KQ.out _ (D.alloc D.size _))); have hHeld := hHeld (by decide); clear hK K; (try simp only [Act.put, List.setIfInBounds_toArray, List.set_cons_zero, List.set_cons_succ])
                          have G' := Blk.new w3 42 #[.bool false, .slice none 0 0, .int .i64 0]
                          have Gn : we.heap.size ≤ w3.heap.size := D.size
                          have hne : Hg ≠ w3.heap.size := Nat.ne_of_lt H.lt
                          have H := H.alloc (.cells #[.bool false, .slice none 0 0, .int .i64 0] 42)
                          have hq := hq.below (hb3 w3 (.cells #[.bool false, .slice none 0 0, .int .i64 0] 42))
                          have D1 : Below we.heap.size we (w3.alloc (.cells #[.bool false, .slice none 0 0, .int .i64 0] 42)) := D.alloc D.size (.cells #[.bool false, .slice none 0 0, .int .i64 0] 42)
                          clear D
                          have D := D1
                          clear D1
                          obtain ⟨w8, hw8⟩ : ∃ w8, w3.alloc (.cells #[.bool false, .slice none 0 0, .int .i64 0] 42) = w8 := ⟨_, rfl⟩
                          obtain ⟨Gg, hGg⟩ : ∃ Gg, w3.heap.size = Gg := ⟨_, rfl⟩
                          rw [hw8] at G' D H hq hHeld ⊢
                          rw [hGg] at G' Gn hne ⊢
                          have G := G'
                          clear G' hw8 hGg
                          (refine wpAnyL_one (i := 3) (o := _) (by kernel_rfl) rfl (fun K hK => ?_); clear hHeld; simp only [List.getElem_toArray, List.getElem_cons_zero, List.getElem_cons_succ]; go_simp; (go_at_call 34; (with_reducible refine (QOd.out _ (KW.out _ D)).mono ?_); rintro e w4 ⟨br', Ar, nr, cr, tr, zr, rfl, hz', z1, z2, z3, z4, hb⟩; have hr := RetS.qs hz' z1 z2 z3 z4; have hq := hq.below hb; have D := D.trans (hb.mono D.size); have G := G.below hb G.lt; have H := H.below hb H.lt); refine hK.out _ _ ?_ (fun hHeld => ?_); focus (intro _; exact KQ.out _ D)); have hHeld := hHeld (by decide); clear hK K; (try simp only [Act.put, List.setIfInBounds_toArray, List.set_cons_zero, List.set_cons_succ])
                          clear hz' z1 z2 z3 z4 hb
                          have X := Lib.hid (qp_set D Gn Hn hne.symm G H hq hr)
                          have D10 := below3q D Gn (.bool bq) (.slice Aq nq cq) (.int .i64 tq)
                          have D11 := below3q D10 Hn (.bool br') (.slice Ar nr cr) (.int .i64 tr)
                          have H1 := far3 H (hne.symm).symm (.bool bq) (.slice Aq nq cq) (.int .i64 tq)
                          have g0 := G.at_ 0 rfl; have g1 := G.at_ 1 rfl; have g2 := G.at_ 2 rfl; have f0 := G.frozen 0; have f1 := G.frozen 1; have f2 := G.frozen 2; have h0 := H1.at_ 0 rfl; have h1 := H1.at_ 1 rfl; have h2 := H1.at_ 2 rfl; have f3 := H1.frozen 0; have f4 := H1.frozen 1; have f5 := H1.frozen 2
                          have D10 := Lib.hid D10; have D11 := Lib.hid D11
                          clear G H H1 D hq hr
                          (refine wpAnyL_one (i := 6) (o := _) (by kernel_rfl) rfl (fun K hK => ?_); clear hHeld; simp only [List.getElem_toArray, List.getElem_cons_zero, List.getElem_cons_succ]; go_simp; refine hK.out _ _ ?_ (fun hHeld => ?_); focus (intro _; exact KQ.out _ D10.out)); have hHeld := hHeld (by decide); clear hK K; (try simp only [Act.put, List.setIfInBounds_toArray, List.set_cons_zero, List.set_cons_succ])
                          (refine wpAnyL_one (i := 7) (o := _) (by kernel_rfl) rfl (fun K hK => ?_); clear hHeld; simp only [List.getElem_toArray, List.getElem_cons_zero, List.getElem_cons_succ]; go_simp; refine hK.out _ _ ?_ (fun hHeld => ?_); focus (intro _; exact KQ.out _ D11.out)); have hHeld := hHeld (by decide); clear hK K; (try simp only [Act.put, List.setIfInBounds_toArray, List.set_cons_zero, List.set_cons_succ])
                          refine wpAnyL_done (by kernel_rfl) ?_ _
                          go_wp2
                          go_meet
                          exact X.out
                  · as_aux_lemma =>
                      (clear hHeld; simp only [List.getElem_toArray, List.getElem_cons_zero, List.getElem_cons_succ]; go_simp; refine hK.out _ _ ?_ (fun hHeld => ?_); focus (intro _; exact KQ.out _ (D.alloc D.size _))); have hHeld := hHeld (by decide); clear hK K; (try simp only [Act.put, List.setIfInBounds_toArray, List.set_cons_zero, List.set_cons_succ])
                      have G' := Blk.new w9 42 #[.bool false, .slice none 0 0, .int .i64 0]
                      have Gn : we.heap.size ≤ w9.heap.size := D.size
                      have hne : Hg ≠ w9.heap.size := Nat.ne_of_lt H.lt
                      have H := H.alloc (.cells #[.bool false, .slice none 0 0, .int .i64 0] 42)
                      have D1 : Below we.heap.size we (w9.alloc (.cells #[.bool false, .slice none 0 0, .int .i64 0] 42)) := D.alloc D.size (.cells #[.bool false, .slice none 0 0, .int .i64 0] 42)
                      clear D
                      have D := D1
                      clear D1
                      obtain ⟨w8, hw8⟩ : ∃ w8, w9.alloc (.cells #[.bool false, .slice none 0 0, .int .i64 0] 42) = w8 := ⟨_, rfl⟩
                      obtain ⟨Gg, hGg⟩ : ∃ Gg, w9.heap.size = Gg := ⟨_, rfl⟩
                      rw [hw8] at G' D H hHeld ⊢
                      rw [hGg] at G' Gn hne ⊢
                      have G := G'
                      clear G' hw8 hGg
                      (refine wpAnyL_one (i := 1) (o := _) (by kernel_rfl) rfl (fun K hK => ?_); clear hHeld; simp only [List.getElem_toArray, List.getElem_cons_zero, List.getElem_cons_succ]; go_simp; (go_at_call 34; (with_reducible refine (QOc.out _ (KW.out _ D)).mono ?_); rintro e w3 ⟨bq, Aq, nq, cq, tq, zq, rfl, hz, y1, y2, y3, y4, hb⟩; have hq := RetS.qs hz y1 y2 y3 y4; have D := D.trans (hb.mono D.size); have G := G.below hb G.lt; have H := H.below hb H.lt); refine hK.out _ _ ?_ (fun hHeld => ?_); focus (intro _; exact KQ.out _ D)); have hHeld := hHeld (by decide); clear hK K; (try simp only [Act.put, List.setIfInBounds_toArray, List.set_cons_zero, List.set_cons_succ])
                      clear hz y1 y2 y3 y4 hb
                      (refine wpAnyL_one (i := 3) (o := _) (by kernel_rfl) rfl (fun K hK => ?_); clear hHeld; simp only [List.getElem_toArray, List.getElem_cons_zero, List.getElem_cons_succ]; go_simp; (go_at_call 34; (with_reducible refine (QOd.out _ (KW.out _ D)).mono ?_); rintro e w4 ⟨br', Ar, nr, cr, tr, zr, rfl, hz', z1, z2, z3, z4, hb⟩; have hr := RetS.qs hz' z1 z2 z3 z4; have hq := hq.below hb; have D := D.trans (hb.mono D.size); have G := G.below hb G.lt; have H := H.below hb H.lt); refine hK.out _ _ ?_ (fun hHeld => ?_); focus (intro _; exact KQ.out _ D)); have hHeld := hHeld (by decide); clear hK K; (try simp only [Act.put, List.setIfInBounds_toArray, List.set_cons_zero, List.set_cons_succ])
                      clear hz' z1 z2 z3 z4 hb
                      have X := Lib.hid (qp_set D Gn Hn hne.symm G H hq hr)
                      have D10 := below3q D Gn (.bool bq) (.slice Aq nq cq) (.int .i64 tq)
                      have D11 := below3q D10 Hn (.bool br') (.slice Ar nr cr) (.int .i64 tr)
                      have H1 := far3 H (hne.symm).symm (.bool bq) (.slice Aq nq cq) (.int .i64 tq)
                      have g0 := G.at_ 0 rfl; have g1 := G.at_ 1 rfl; have g2 := G.at_ 2 rfl; have f0 := G.frozen 0; have f1 := G.frozen 1; have f2 := G.frozen 2; have h0 := H1.at_ 0 rfl; have h1 := H1.at_ 1 rfl; have h2 := H1.at_ 2 rfl; have f3 := H1.frozen 0; have f4 := H1.frozen 1; have f5 := H1.frozen 2
                      have D10 := Lib.hid D10; have D11 := Lib.hid D11
                      clear G H H1 D hq hr
                      (refine wpAnyL_one (i := 6) (o := _) (by kernel_rfl) rfl (fun K hK => ?_); clear hHeld; simp only [List.getElem_toArray, List.getElem_cons_zero, List.getElem_cons_succ]; go_simp; refine hK.out _ _ ?_ (fun hHeld => ?_); focus (intro _; exact KQ.out _ D10.out)); have hHeld := hHeld (by decide); clear hK K; (try simp only [Act.put, List.setIfInBounds_toArray, List.set_cons_zero, List.set_cons_succ])
                      (refine wpAnyL_one (i := 7) (o := _) (by kernel_rfl) rfl (fun K hK => ?_); clear hHeld; simp only [List.getElem_toArray, List.getElem_cons_zero, List.getElem_cons_succ]; go_simp; refine hK.out _ _ ?_ (fun hHeld => ?_); focus (intro _; exact KQ.out _ D11.out)); have hHeld := hHeld (by decide); clear hK K; (try simp only [Act.put, List.setIfInBounds_toArray, List.set_cons_zero, List.set_cons_succ])
                      refine wpAnyL_done (by kernel_rfl) ?_ _
                      go_wp2
                      go_meet
                      exact X.out
            case rest =>
              obtain ⟨ga, gb, bq, Aq, nq, cq, tq, br, Ar, nr, cr, tr, rfl, rfl, G, H, hq, hr, DC⟩ := hcut
              obtain ⟨wz, hwz⟩ : ∃ wz, wz = wc := ⟨_, rfl⟩
              have KF : Hid (∀ W, Below wz.heap.size wz W → (((W.cell? ⟨g4, 0, none⟩ = some (.bool b4) ∧ W.cell? ⟨g4, 1, none⟩ = some (.slice A4 n4 c4) ∧ W.cell? ⟨g4, 2, none⟩ = some (.int .i64 x4)) ∧ (W.cell? ⟨g5, 0, none⟩ = some (.bool b5) ∧ W.cell? ⟨g5, 1, none⟩ = some (.slice A5 n5 c5) ∧ W.cell? ⟨g5, 2, none⟩ = some (.int .i64 x5)) ∧ (W.cell? ⟨g6, 0, none⟩ = some (.bool b6) ∧ W.cell? ⟨g6, 1, none⟩ = some (.slice A6 n6 c6) ∧ W.cell? ⟨g6, 2, none⟩ = some (.int .i64 x6)) ∧ (W.cell? ⟨g7, 0, none⟩ = some (.bool b7) ∧ W.cell? ⟨g7, 1, none⟩ = some (.slice A7 n7 c7) ∧ W.cell? ⟨g7, 2, none⟩ = some (.int .i64 x7)) ∧ (W.cell? ⟨w.heap.size, 0, none⟩ = some (.bool b1) ∧ W.cell? ⟨w.heap.size, 1, none⟩ = some (.slice A1 n1 c1) ∧ W.cell? ⟨w.heap.size, 2, none⟩ = some (.int .i64 x1)) ∧ (W.cell? ⟨w.heap.size + 1, 0, none⟩ = some (.bool b2) ∧ W.cell? ⟨w.heap.size + 1, 1, none⟩ = some (.slice A2 n2 c2) ∧ W.cell? ⟨w.heap.size + 1, 2, none⟩ = some (.int .i64 x2))) ∧ ((W.cell? ⟨ga, 0, none⟩ = some (.bool bq) ∧ W.cell? ⟨ga, 1, none⟩ = some (.slice Aq nq cq) ∧ W.cell? ⟨ga, 2, none⟩ = some (.int .i64 tq)) ∧ (W.cell? ⟨gb, 0, none⟩ = some (.bool br) ∧ W.cell? ⟨gb, 1, none⟩ = some (.slice Ar nr cr) ∧ W.cell? ⟨gb, 2, none⟩ = some (.int .i64 tr)))) ∧ Below W7.heap.size W7 W) := fun W hb => by
                rw [hwz] at hb
                have h1 := KE.out W (DC.trans (hb.mono DC.size))
                have h2 := G.below hb G.lt
                have h3 := H.below hb H.lt
                exact ⟨⟨(KA.out W h1).1, ⟨h2.at_ 0 rfl, h2.at_ 1 rfl, h2.at_ 2 rfl⟩, h3.at_ 0 rfl, h3.at_ 1 rfl, h3.at_ 2 rfl⟩, h1⟩
              have VQ : Hid (∀ W, Below wz.heap.size wz W → QS 22800 10000 W (.agg #[.bool bq, .slice Aq nq cq, .int .i64 tq]) (S c)) := fun W hb => by rw [hwz] at hb; exact hq.below hb
              have VR : Hid (∀ W, Below wz.heap.size wz W → QS 22800 10000 W (.agg #[.bool br, .slice Ar nr cr, .int .i64 tr]) (S d)) := fun W hb => by rw [hwz] at hb; exact hr.below hb
              have D : Hid (Below wz.heap.size wz wc.drew) := by rw [hwz]; exact (Below.refl _ _).drew
              clear hwz G H hq hr DC KE DE
              go_upto_region 18 with fail
              (refine wp_region_L (S := fun w' => ((w'.cell? ⟨g4, 0, none⟩ = some (.bool b4) ∧ w'.cell? ⟨g4, 1, none⟩ = some (.slice A4 n4 c4) ∧ w'.cell? ⟨g4, 2, none⟩ = some (.int .i64 x4)) ∧ (w'.cell? ⟨g5, 0, none⟩ = some (.bool b5) ∧ w'.cell? ⟨g5, 1, none⟩ = some (.slice A5 n5 c5) ∧ w'.cell? ⟨g5, 2, none⟩ = some (.int .i64 x5)) ∧ (w'.cell? ⟨g6, 0, none⟩ = some (.bool b6) ∧ w'.cell? ⟨g6, 1, none⟩ = some (.slice A6 n6 c6) ∧ w'.cell? ⟨g6, 2, none⟩ = some (.int .i64 x6)) ∧ (w'.cell? ⟨g7, 0, none⟩ = some (.bool b7) ∧ w'.cell? ⟨g7, 1, none⟩ = some (.slice A7 n7 c7) ∧ w'.cell? ⟨g7, 2, none⟩ = some (.int .i64 x7)) ∧ (w'.cell? ⟨w.heap.size, 0, none⟩ = some (.bool b1) ∧ w'.cell? ⟨w.heap.size, 1, none⟩ = some (.slice A1 n1 c1) ∧ w'.cell? ⟨w.heap.size, 2, none⟩ = some (.int .i64 x1)) ∧ (w'.cell? ⟨w.heap.size + 1, 0, none⟩ = some (.bool b2) ∧ w'.cell? ⟨w.heap.size + 1, 1, none⟩ = some (.slice A2 n2 c2) ∧ w'.cell? ⟨w.heap.size + 1, 2, none⟩ = some (.int .i64 x2))) ∧ ((w'.cell? ⟨ga, 0, none⟩ = some (.bool bq) ∧ w'.cell? ⟨ga, 1, none⟩ = some (.slice Aq nq cq) ∧ w'.cell? ⟨ga, 2, none⟩ = some (.int .i64 tq)) ∧ (w'.cell? ⟨gb, 0, none⟩ = some (.bool br) ∧ w'.cell? ⟨gb, 1, none⟩ = some (.slice Ar nr cr) ∧ w'.cell? ⟨gb, 2, none⟩ = some (.int .i64 tr)))) (nl := 1000000) (by kernel_rfl) ?_ (fun hHeld => ?_); focus (exact (KF.out _ D.out).1))
              (refine wpAnyL_take (i := 0) (oi := _) (v := ?_) rfl (by kernel_rfl) (by kernel_rfl) (by kernel_rfl) (fun _ _ _ h => h) (Or.inl ⟨by first | rfl | kernel_rfl, ?hy37⟩) (by assumption) ?rs37; (case hy37 => (intro w hSw; (try dsimp only at hSw); go_simp; first | done | with_reducible rfl)); case' rs37 => (simp only [List.getElem_toArray, List.getElem_cons_zero, List.getElem_cons_succ, Act.put, List.setIfInBounds_toArray, List.set_cons_zero, List.set_cons_succ])); (refine wpAnyL_take (i := 1) (oi := _) (v := ?_) rfl (by kernel_rfl) (by kernel_rfl) (by kernel_rfl) (fun _ _ _ h => h) (Or.inl ⟨by first | rfl | kernel_rfl, ?hy38⟩) (by assumption) ?rs38; (case hy38 => (intro w hSw; (try dsimp only at hSw); go_simp; first | done | with_reducible rfl)); case' rs38 => (simp only [List.getElem_toArray, List.getElem_cons_zero, List.getElem_cons_succ, Act.put, List.setIfInBounds_toArray, List.set_cons_zero, List.set_cons_succ])); (refine wpAnyL_take (i := 2) (oi := _) (v := ?_) rfl (by kernel_rfl) (by kernel_rfl) (by kernel_rfl) (fun _ _ _ h => h) (Or.inl ⟨by first | rfl | kernel_rfl, ?hy39⟩) (by assumption) ?rs39; (case hy39 => (intro w hSw; (try dsimp only at hSw); go_simp; first | done | with_reducible rfl)); case' rs39 => (simp only [List.getElem_toArray, List.getElem_cons_zero, List.getElem_cons_succ, Act.put, List.setIfInBounds_toArray, List.set_cons_zero, List.set_cons_succ])); skip
              (refine wpAnyL_one (i := 3) (o := _) (by kernel_rfl) rfl (fun K hK => ?_); clear hHeld; simp only [List.getElem_toArray, List.getElem_cons_zero, List.getElem_cons_succ]; go_simp; (go_at_call 35; (with_reducible refine (QCm.out _ _ _ (VQ.out _ D.out) (VR.out _ D.out)).mono ?_); rintro e w3 ⟨rfl, hb⟩; have D := Lib.hid (D.out.trans (hb.mono D.out.size)); clear hb); refine hK.out _ _ ?_ (fun hHeld => ?_); focus (intro _; exact (KF.out _ D.out).1)); have hHeld := hHeld (by decide); clear hK K; (try simp only [Act.put, List.setIfInBounds_toArray, List.set_cons_zero, List.set_cons_succ])
              (refine wpAnyL_take (i := 4) (oi := _) (v := ?_) rfl (by kernel_rfl) (by kernel_rfl) (by kernel_rfl) (fun _ _ _ h => h) (Or.inl ⟨by first | rfl | kernel_rfl, ?hy40⟩) (by assumption) ?rs40; (case hy40 => (intro w hSw; (try dsimp only at hSw); go_simp; first | done | with_reducible rfl)); case' rs40 => (simp only [List.getElem_toArray, List.getElem_cons_zero, List.getElem_cons_succ, Act.put, List.setIfInBounds_toArray, List.set_cons_zero, List.set_cons_succ])); (refine wpAnyL_take (i := 5) (oi := _) (v := ?_) rfl (by kernel_rfl) (by kernel_rfl) (by kernel_rfl) (fun _ _ _ h => h) (Or.inl ⟨by first | rfl | kernel_rfl, ?hy41⟩) (by assumption) ?rs41; (case hy41 => (intro w hSw; (try dsimp only at hSw); go_simp; first | done | with_reducible rfl)); case' rs41 => (simp only [List.getElem_toArray, List.getElem_cons_zero, List.getElem_cons_succ, Act.put, List.setIfInBounds_toArray, List.set_cons_zero, List.set_cons_succ])); (refine wpAnyL_take (i := 6) (oi := _) (v := ?_) rfl (by kernel_rfl) (by kernel_rfl) (by kernel_rfl) (fun _ _ _ h => h) (Or.inl ⟨by first | rfl | kernel_rfl, ?hy42⟩) (by assumption) ?rs42; (case hy42 => (intro w hSw; (try dsimp only at hSw); go_simp; first | done | with_reducible rfl)); case' rs42 => (simp only [List.getElem_toArray, List.getElem_cons_zero, List.getElem_cons_succ, Act.put, List.setIfInBounds_toArray, List.set_cons_zero, List.set_cons_succ])); (refine wpAnyL_take (i := 7) (oi := _) (v := ?_) rfl (by kernel_rfl) (by kernel_rfl) (by kernel_rfl) (fun _ _ _ h => h) (Or.inl ⟨by first | rfl | kernel_rfl, ?hy43⟩) (by assumption) ?rs43; (case hy43 => (intro w hSw; (try dsimp only at hSw); go_simp; first | done | with_reducible rfl)); case' rs43 => (simp only [List.getElem_toArray, List.getElem_cons_zero, List.getElem_cons_succ, Act.put, List.setIfInBounds_toArray, List.set_cons_zero, List.set_cons_succ])); (refine wpAnyL_take (i := 8) (oi := _) (v := ?_) rfl (by kernel_rfl) (by kernel_rfl) (by kernel_rfl) (fun _ _ _ h => h) (Or.inl ⟨by first | rfl | kernel_rfl, ?hy44⟩) (by assumption) ?rs44; (case hy44 => (intro w hSw; (try dsimp only at hSw); go_simp; first | done | with_reducible rfl)); case' rs44 => (simp only [List.getElem_toArray, List.getElem_cons_zero, List.getElem_cons_succ, Act.put, List.setIfInBounds_toArray, List.set_cons_zero, List.set_cons_succ])); (refine wpAnyL_take (i := 9) (oi := _) (v := ?_) rfl (by kernel_rfl) (by kernel_rfl) (by kernel_rfl) (fun _ _ _ h => h) (Or.inl ⟨by first | rfl | kernel_rfl, ?hy45⟩) (by assumption) ?rs45; (case hy45 => (intro w hSw; (try dsimp only at hSw); go_simp; first | done | with_reducible rfl)); case' rs45 => (simp only [List.getElem_toArray, List.getElem_cons_zero, List.getElem_cons_succ, Act.put, List.setIfInBounds_toArray, List.set_cons_zero, List.set_cons_succ])); (refine wpAnyL_take (i := 10) (oi := _) (v := ?_) rfl (by kernel_rfl) (by kernel_rfl) (by kernel_rfl) (fun _ _ _ h => h) (Or.inl ⟨by first | rfl | kernel_rfl, ?hy46⟩) (by assumption) ?rs46; (case hy46 => (intro w hSw; (try dsimp only at hSw); go_simp; first | done | with_reducible rfl)); case' rs46 => (simp only [List.getElem_toArray, List.getElem_cons_zero, List.getElem_cons_succ, Act.put, List.setIfInBounds_toArray, List.set_cons_zero, List.set_cons_succ])); (refine wpAnyL_take (i := 11) (oi := _) (v := ?_) rfl (by kernel_rfl) (by kernel_rfl) (by kernel_rfl) (fun _ _ _ h => h) (Or.inl ⟨by first | rfl | kernel_rfl, ?hy47⟩) (by assumption) ?rs47; (case hy47 => (intro w hSw; (try dsimp only at hSw); go_simp; first | done | with_reducible rfl)); case' rs47 => (simp only [List.getElem_toArray, List.getElem_cons_zero, List.getElem_cons_succ, Act.put, List.setIfInBounds_toArray, List.set_cons_zero, List.set_cons_succ])); (refine wpAnyL_take (i := 12) (oi := _) (v := ?_) rfl (by kernel_rfl) (by kernel_rfl) (by kernel_rfl) (fun _ _ _ h => h) (Or.inl ⟨by first | rfl | kernel_rfl, ?hy48⟩) (by assumption) ?rs48; (case hy48 => (intro w hSw; (try dsimp only at hSw); go_simp; first | done | with_reducible rfl)); case' rs48 => (simp only [List.getElem_toArray, List.getElem_cons_zero, List.getElem_cons_succ, Act.put, List.setIfInBounds_toArray, List.set_cons_zero, List.set_cons_succ])); (refine wpAnyL_take (i := 13) (oi := _) (v := ?_) rfl (by kernel_rfl) (by kernel_rfl) (by kernel_rfl) (fun _ _ _ h => h) (Or.inl ⟨by first | rfl | kernel_rfl, ?hy49⟩) (by assumption) ?rs49; (case hy49 => (intro w hSw; (try dsimp only at hSw); go_simp; first | done | with_reducible rfl)); case' rs49 => (simp only [List.getElem_toArray, List.getElem_cons_zero, List.getElem_cons_succ, Act.put, List.setIfInBounds_toArray, List.set_cons_zero, List.set_cons_succ])); skip
              (refine wpAnyL_one (i := 14) (o := _) (by kernel_rfl) rfl (fun K hK => ?_); clear hHeld; simp only [List.getElem_toArray, List.getElem_cons_zero, List.getElem_cons_succ]; go_simp; (go_at_call 36; (with_reducible refine (QAd.out _ _ _ (VQ.out _ D.out) (VR.out _ D.out)).mono ?_); rintro e w4 ⟨b12, A12, n12, c12, t12, z12, rfl, hz, y1, y2, y3, y4, hb⟩; have D := Lib.hid (D.out.trans (hb.mono D.out.size)); have Q14 := Lib.hid (RetS.qs hz y1 y2 y3 y4); clear hb hz y1 y2 y3 y4); refine hK.out _ _ ?_ (fun hHeld => ?_); focus (intro _; exact (KF.out _ D.out).1)); have hHeld := hHeld (by decide); clear hK K; (try simp only [Act.put, List.setIfInBounds_toArray, List.set_cons_zero, List.set_cons_succ])
              (refine wpAnyL_one (i := 15) (o := _) (by kernel_rfl) rfl (fun K hK => ?_); clear hHeld; simp only [List.getElem_toArray, List.getElem_cons_zero, List.getElem_cons_succ]; go_simp; (go_at_call 21; (with_reducible refine (TX.out _ _ _ _ _ _ _ (KA.out _ (KF.out _ D.out).2).2.1 Q14.out).mono ?_); rintro e w5 ⟨rfl, hb⟩; have D := Lib.hid (D.out.trans (hb.mono D.out.size)); clear hb Q14); refine hK.out _ _ ?_ (fun hHeld => ?_); focus (intro _; exact (KF.out _ D.out).1)); have hHeld := hHeld (by decide); clear hK K; (try simp only [Act.put, List.setIfInBounds_toArray, List.set_cons_zero, List.set_cons_succ])
              (refine wpAnyL_take (i := 16) (oi := _) (v := ?_) rfl (by kernel_rfl) (by kernel_rfl) (by kernel_rfl) (fun _ _ _ h => h) (Or.inl ⟨by first | rfl | kernel_rfl, ?hy50⟩) (by assumption) ?rs50; (case hy50 => (intro w hSw; (try dsimp only at hSw); go_simp; first | done | with_reducible rfl)); case' rs50 => (simp only [List.getElem_toArray, List.getElem_cons_zero, List.getElem_cons_succ, Act.put, List.setIfInBounds_toArray, List.set_cons_zero, List.set_cons_succ])); (refine wpAnyL_take (i := 17) (oi := _) (v := ?_) rfl (by kernel_rfl) (by kernel_rfl) (by kernel_rfl) (fun _ _ _ h => h) (Or.inl ⟨by first | rfl | kernel_rfl, ?hy51⟩) (by assumption) ?rs51; (case hy51 => (intro w hSw; (try dsimp only at hSw); go_simp; first | done | with_reducible rfl)); case' rs51 => (simp only [List.getElem_toArray, List.getElem_cons_zero, List.getElem_cons_succ, Act.put, List.setIfInBounds_toArray, List.set_cons_zero, List.set_cons_succ])); (refine wpAnyL_take (i := 18) (oi := _) (v := ?_) rfl (by kernel_rfl) (by kernel_rfl) (by kernel_rfl) (fun _ _ _ h => h) (Or.inl ⟨by first | rfl | kernel_rfl, ?hy52⟩) (by assumption) ?rs52; (case hy52 => (intro w hSw; (try dsimp only at hSw); go_simp; first | done | with_reducible rfl)); case' rs52 => (simp only [List.getElem_toArray, List.getElem_cons_zero, List.getElem_cons_succ, Act.put, List.setIfInBounds_toArray, List.set_cons_zero, List.set_cons_succ])); (refine wpAnyL_take (i := 19) (oi := _) (v := ?_) rfl (by kernel_rfl) (by kernel_rfl) (by kernel_rfl) (fun _ _ _ h => h) (Or.inl ⟨by first | rfl | kernel_rfl, ?hy53⟩) (by assumption) ?rs53; (case hy53 => (intro w hSw; (try dsimp only at hSw); go_simp; first | done | with_reducible rfl)); case' rs53 => (simp only [List.getElem_toArray, List.getElem_cons_zero, List.getElem_cons_succ, Act.put, List.setIfInBounds_toArray, List.set_cons_zero, List.set_cons_succ])); (refine wpAnyL_take (i := 20) (oi := _) (v := ?_) rfl (by kernel_rfl) (by kernel_rfl) (by kernel_rfl) (fun _ _ _ h => h) (Or.inl ⟨by first | rfl | kernel_rfl, ?hy54⟩) (by assumption) ?rs54; (case hy54 => (intro w hSw; (try dsimp only at hSw); go_simp; first | done | with_reducible rfl)); case' rs54 => (simp only [List.getElem_toArray, List.getElem_cons_zero, List.getElem_cons_succ, Act.put, List.setIfInBounds_toArray, List.set_cons_zero, List.set_cons_succ])); (refine wpAnyL_take (i := 21) (oi := _) (v := ?_) rfl (by kernel_rfl) (by kernel_rfl) (by kernel_rfl) (fun _ _ _ h => h) (Or.inl ⟨by first | rfl | kernel_rfl, ?hy55⟩) (by assumption) ?rs55; (case hy55 => (intro w hSw; (try dsimp only at hSw); go_simp; first | done | with_reducible rfl)); case' rs55 => (simp only [List.getElem_toArray, List.getElem_cons_zero, List.getElem_cons_succ, Act.put, List.setIfInBounds_toArray, List.set_cons_zero, List.set_cons_succ])); skip
              (refine wpAnyL_one (i := 22) (o := _) (by kernel_rfl) rfl (fun K hK => ?_); clear hHeld; simp only [List.getElem_toArray, List.getElem_cons_zero, List.getElem_cons_succ]; go_simp; (go_at_call 37; (with_reducible refine (QNg.out _ _ (VR.out _ D.out)).mono ?_); rintro e w4 ⟨b12, A12, n12, c12, t12, z12, rfl, hz, y1, y2, y3, y4, hb⟩; have D := Lib.hid (D.out.trans (hb.mono D.out.size)); have Q22 := Lib.hid (RetS.qs hz y1 y2 y3 y4); clear hb hz y1 y2 y3 y4); refine hK.out _ _ ?_ (fun hHeld => ?_); focus (intro _; exact (KF.out _ D.out).1)); have hHeld := hHeld (by decide); clear hK K; (try simp only [Act.put, List.setIfInBounds_toArray, List.set_cons_zero, List.set_cons_succ])
              (refine wpAnyL_one (i := 23) (o := _) (by kernel_rfl) rfl (fun K hK => ?_); clear hHeld; simp only [List.getElem_toArray, List.getElem_cons_zero, List.getElem_cons_succ]; go_simp; (go_at_call 36; (with_reducible refine (QAe.out _ _ _ (VQ.out _ D.out) Q22.out).mono ?_); rintro e w4 ⟨b12, A12, n12, c12, t12, z12, rfl, hz, y1, y2, y3, y4, hb⟩; have D := Lib.hid (D.out.trans (hb.mono D.out.size)); have Q23 := Lib.hid (RetS.qs hz y1 y2 y3 y4); clear hb hz y1 y2 y3 y4 Q22); refine hK.out _ _ ?_ (fun hHeld => ?_); focus (intro _; exact (KF.out _ D.out).1)); have hHeld := hHeld (by decide); clear hK K; (try simp only [Act.put, List.setIfInBounds_toArray, List.set_cons_zero, List.set_cons_succ])
              (refine wpAnyL_one (i := 24) (o := _) (by kernel_rfl) rfl (fun K hK => ?_); clear hHeld; simp only [List.getElem_toArray, List.getElem_cons_zero, List.getElem_cons_succ]; go_simp; (go_at_call 21; (with_reducible refine (TY.out _ _ _ _ _ _ _ (KA.out _ (KF.out _ D.out).2).2.2.1 Q23.out).mono ?_); rintro e w5 ⟨rfl, hb⟩; have D := Lib.hid (D.out.trans (hb.mono D.out.size)); clear hb Q23); refine hK.out _ _ ?_ (fun hHeld => ?_); focus (intro _; exact (KF.out _ D.out).1)); have hHeld := hHeld (by decide); clear hK K; (try simp only [Act.put, List.setIfInBounds_toArray, List.set_cons_zero, List.set_cons_succ])
              (refine wpAnyL_take (i := 25) (oi := _) (v := ?_) rfl (by kernel_rfl) (by kernel_rfl) (by kernel_rfl) (fun _ _ _ h => h) (Or.inl ⟨by first | rfl | kernel_rfl, ?hy56⟩) (by assumption) ?rs56; (case hy56 => (intro w hSw; (try dsimp only at hSw); go_simp; first | done | with_reducible rfl)); case' rs56 => (simp only [List.getElem_toArray, List.getElem_cons_zero, List.getElem_cons_succ, Act.put, List.setIfInBounds_toArray, List.set_cons_zero, List.set_cons_succ])); (refine wpAnyL_take (i := 26) (oi := _) (v := ?_) rfl (by kernel_rfl) (by kernel_rfl) (by kernel_rfl) (fun _ _ _ h => h) (Or.inl ⟨by first | rfl | kernel_rfl, ?hy57⟩) (by assumption) ?rs57; (case hy57 => (intro w hSw; (try dsimp only at hSw); go_simp; first | done | with_reducible rfl)); case' rs57 => (simp only [List.getElem_toArray, List.getElem_cons_zero, List.getElem_cons_succ, Act.put, List.setIfInBounds_toArray, List.set_cons_zero, List.set_cons_succ])); (refine wpAnyL_take (i := 27) (oi := _) (v := ?_) rfl (by kernel_rfl) (by kernel_rfl) (by kernel_rfl) (fun _ _ _ h => h) (Or.inl ⟨by first | rfl | kernel_rfl, ?hy58⟩) (by assumption) ?rs58; (case hy58 => (intro w hSw; (try dsimp only at hSw); go_simp; first | done | with_reducible rfl)); case' rs58 => (simp only [List.getElem_toArray, List.getElem_cons_zero, List.getElem_cons_succ, Act.put, List.setIfInBounds_toArray, List.set_cons_zero, List.set_cons_succ])); (refine wpAnyL_take (i := 28) (oi := _) (v := ?_) rfl (by kernel_rfl) (by kernel_rfl) (by kernel_rfl) (fun _ _ _ h => h) (Or.inl ⟨by first | rfl | kernel_rfl, ?hy59⟩) (by assumption) ?rs59; (case hy59 => (intro w hSw; (try dsimp only at hSw); go_simp; first | done | with_reducible rfl)); case' rs59 => (simp only [List.getElem_toArray, List.getElem_cons_zero, List.getElem_cons_succ, Act.put, List.setIfInBounds_toArray, List.set_cons_zero, List.set_cons_succ])); (refine wpAnyL_take (i := 29) (oi := _) (v := ?_) rfl (by kernel_rfl) (by kernel_rfl) (by kernel_rfl) (fun _ _ _ h => h) (Or.inl ⟨by first | rfl | kernel_rfl, ?hy60⟩) (by assumption) ?rs60; (case hy60 => (intro w hSw; (try dsimp only at hSw); go_simp; first | done | with_reducible rfl)); case' rs60 => (simp only [List.getElem_toArray, List.getElem_cons_zero, List.getElem_cons_succ, Act.put, List.setIfInBounds_toArray, List.set_cons_zero, List.set_cons_succ])); (refine wpAnyL_take (i := 30) (oi := _) (v := ?_) rfl (by kernel_rfl) (by kernel_rfl) (by kernel_rfl) (fun _ _ _ h => h) (Or.inl ⟨by first | rfl | kernel_rfl, ?hy61⟩) (by assumption) ?rs61; (case hy61 => (intro w hSw; (try dsimp only at hSw); go_simp; first | done | with_reducible rfl)); case' rs61 => (simp only [List.getElem_toArray, List.getElem_cons_zero, List.getElem_cons_succ, Act.put, List.setIfInBounds_toArray, List.set_cons_zero, List.set_cons_succ])); skip
              (refine wpAnyL_one (i := 31) (o := _) (by kernel_rfl) rfl (fun K hK => ?_); clear hHeld; simp only [List.getElem_toArray, List.getElem_cons_zero, List.getElem_cons_succ]; go_simp; (go_at_call 38; (with_reducible refine (QMu.out _ _ _ (VQ.out _ D.out) (VR.out _ D.out)).mono ?_); rintro e w4 ⟨b12, A12, n12, c12, t12, z12, rfl, hz, y1, y2, y3, y4, hb⟩; have D := Lib.hid (D.out.trans (hb.mono D.out.size)); have Q31 := Lib.hid (RetS.qs hz y1 y2 y3 y4); clear hb hz y1 y2 y3 y4); refine hK.out _ _ ?_ (fun hHeld => ?_); focus (intro _; exact (KF.out _ D.out).1)); have hHeld := hHeld (by decide); clear hK K; (try simp only [Act.put, List.setIfInBounds_toArray, List.set_cons_zero, List.set_cons_succ])
              (refine wpAnyL_one (i := 32) (o := _) (by kernel_rfl) rfl (fun K hK => ?_); clear hHeld; simp only [List.getElem_toArray, List.getElem_cons_zero, List.getElem_cons_succ]; go_simp; (go_at_call 21; (with_reducible refine (TZ.out _ _ _ _ _ _ _ (KA.out _ (KF.out _ D.out).2).2.2.2.1 Q31.out).mono ?_); rintro e w5 ⟨rfl, hb⟩; have D := Lib.hid (D.out.trans (hb.mono D.out.size)); clear hb Q31); refine hK.out _ _ ?_ (fun hHeld => ?_); focus (intro _; exact (KF.out _ D.out).1)); have hHeld := hHeld (by decide); clear hK K; (try simp only [Act.put, List.setIfInBounds_toArray, List.set_cons_zero, List.set_cons_succ])
              (refine wpAnyL_take (i := 33) (oi := _) (v := ?_) rfl (by kernel_rfl) (by kernel_rfl) (by kernel_rfl) (fun _ _ _ h => h) (Or.inl ⟨by first | rfl | kernel_rfl, ?hy62⟩) (by assumption) ?rs62; (case hy62 => (intro w hSw; (try dsimp only at hSw); go_simp; first | done | with_reducible rfl)); case' rs62 => (simp only [List.getElem_toArray, List.getElem_cons_zero, List.getElem_cons_succ, Act.put, List.setIfInBounds_toArray, List.set_cons_zero, List.set_cons_succ])); (refine wpAnyL_take (i := 34) (oi := _) (v := ?_) rfl (by kernel_rfl) (by kernel_rfl) (by kernel_rfl) (fun _ _ _ h => h) (Or.inl ⟨by first | rfl | kernel_rfl, ?hy63⟩) (by assumption) ?rs63; (case hy63 => (intro w hSw; (try dsimp only at hSw); go_simp; first | done | with_reducible rfl)); case' rs63 => (simp only [List.getElem_toArray, List.getElem_cons_zero, List.getElem_cons_succ, Act.put, List.setIfInBounds_toArray, List.set_cons_zero, List.set_cons_succ])); skip
              refine wpAnyL_done (by kernel_rfl) ?_ _
              have D := Lib.hid (KF.out _ D.out).2
              go_wp2
              go_ret
              exact ⟨by first | rfl | simp, D0.out.trans ((D7.out.trans (D.out.mono D7.out.size)).mono D0.out.size)⟩
      · as_aux_lemma =>
            have he : E ≠ 0 := by rw [← hE]; simp [he1]
            clear hE
            obtain ⟨r1, r2, r3, r4, r5⟩ := ERR he
            clear hk0 he0 hrx hry hrz hrs HK hg1 hg2 HG ERR SHE SHB
            have r2 := r2.symm
            subst r1; subst r2; subst r3; subst r4; subst r5
            have gv := (KA.out _ D.out).2
            obtain ⟨i1, i2, i3⟩ := (VD.none_iff gv.1).2 rfl
            obtain ⟨i4, i5, i6⟩ := (VD.none_iff gv.2.1).2 rfl
            obtain ⟨i7, i8, i9⟩ := (VD.none_iff gv.2.2.1).2 rfl
            subst i1; subst i2; subst i3; subst i4; subst i5; subst i6; subst i7; subst i8; subst i9
            have t9 : (E != 0) = true := by simp [he]
            have t8 : (E == 0) = false := by simp [he]
            clear gv
            obtain ⟨⟨⟨s0, s1, s2⟩, ⟨s3, s4, s5⟩, ⟨s6, s7, s8⟩, ⟨t0, t1, t2⟩, ⟨p0, p1, p2⟩, ⟨q0, q1, q2⟩⟩, -⟩ := KA.out _ D.out
            clear hm he1
            clear he
            go_upto_region 13 with (first
              | (go_at_call 24; (with_reducible refine (BT.out _).mono ?_); rintro e v11 ⟨rfl, rfl⟩))
            have D := Lib.hid D.out.drew
            clear s0 s1 s2 s3 s4 s5 s6 s7 s8 t0 t1 t2 p0 p1 p2 q0 q1 q2
            (refine wp_region_L (S := fun w' => ((w'.cell? ⟨g4, 0, none⟩ = some (.bool false) ∧ w'.cell? ⟨g4, 1, none⟩ = some (.slice A4 0 c4) ∧ w'.cell? ⟨g4, 2, none⟩ = some (.int .i64 0)) ∧ (w'.cell? ⟨g5, 0, none⟩ = some (.bool false) ∧ w'.cell? ⟨g5, 1, none⟩ = some (.slice A5 0 c5) ∧ w'.cell? ⟨g5, 2, none⟩ = some (.int .i64 0)) ∧ (w'.cell? ⟨g6, 0, none⟩ = some (.bool false) ∧ w'.cell? ⟨g6, 1, none⟩ = some (.slice A6 0 c6) ∧ w'.cell? ⟨g6, 2, none⟩ = some (.int .i64 0)) ∧ (w'.cell? ⟨g7, 0, none⟩ = some (.bool b7) ∧ w'.cell? ⟨g7, 1, none⟩ = some (.slice A7 n7 c7) ∧ w'.cell? ⟨g7, 2, none⟩ = some (.int .i64 x7)) ∧ (w'.cell? ⟨w.heap.size, 0, none⟩ = some (.bool b1) ∧ w'.cell? ⟨w.heap.size, 1, none⟩ = some (.slice A1 n1 c1) ∧ w'.cell? ⟨w.heap.size, 2, none⟩ = some (.int .i64 x1)) ∧ (w'.cell? ⟨w.heap.size + 1, 0, none⟩ = some (.bool b2) ∧ w'.cell? ⟨w.heap.size + 1, 1, none⟩ = some (.slice A2 n2 c2) ∧ w'.cell? ⟨w.heap.size + 1, 2, none⟩ = some (.int .i64 x2)))) (nl := 1000000) (by kernel_rfl) ?_ (fun hHeld => ?_); focus (exact (KA.out _ D.out).1))
            (refine wpAnyL_take (i := 0) (oi := _) (v := ?_) rfl (by kernel_rfl) (by kernel_rfl) (by kernel_rfl) (fun _ _ _ h => h) (Or.inl ⟨by first | rfl | kernel_rfl, ?hy64⟩) (by assumption) ?rs64; (case hy64 => (intro w hSw; (try dsimp only at hSw); go_simp; first | done | with_reducible rfl)); case' rs64 => (simp only [List.getElem_toArray, List.getElem_cons_zero, List.getElem_cons_succ, Act.put, List.setIfInBounds_toArray, List.set_cons_zero, List.set_cons_succ])); (refine wpAnyL_take (i := 1) (oi := _) (v := ?_) rfl (by kernel_rfl) (by kernel_rfl) (by kernel_rfl) (fun _ _ _ h => h) (Or.inl ⟨by first | rfl | kernel_rfl, ?hy65⟩) (by assumption) ?rs65; (case hy65 => (intro w hSw; (try dsimp only at hSw); go_simp; first | done | with_reducible rfl)); case' rs65 => (simp only [List.getElem_toArray, List.getElem_cons_zero, List.getElem_cons_succ, Act.put, List.setIfInBounds_toArray, List.set_cons_zero, List.set_cons_succ])); (refine wpAnyL_take (i := 2) (oi := _) (v := ?_) rfl (by kernel_rfl) (by kernel_rfl) (by kernel_rfl) (fun _ _ _ h => h) (Or.inl ⟨by first | rfl | kernel_rfl, ?hy66⟩) (by assumption) ?rs66; (case hy66 => (intro w hSw; (try dsimp only at hSw); go_simp; first | done | with_reducible rfl)); case' rs66 => (simp only [List.getElem_toArray, List.getElem_cons_zero, List.getElem_cons_succ, Act.put, List.setIfInBounds_toArray, List.set_cons_zero, List.set_cons_succ])); (refine wpAnyL_take (i := 4) (oi := _) (v := ?_) rfl (by kernel_rfl) (by kernel_rfl) (by kernel_rfl) (fun _ _ _ h => h) (Or.inl ⟨by first | rfl | kernel_rfl, ?hy67⟩) (by assumption) ?rs67; (case hy67 => (intro w hSw; (try dsimp only at hSw); go_simp; first | done | with_reducible rfl)); case' rs67 => (simp only [List.getElem_toArray, List.getElem_cons_zero, List.getElem_cons_succ, Act.put, List.setIfInBounds_toArray, List.set_cons_zero, List.set_cons_succ])); skip
            (refine wpAnyL_one (i := 3) (o := _) (by kernel_rfl) rfl (fun K hK => ?_); clear hHeld; simp only [List.getElem_toArray, List.getElem_cons_zero, List.getElem_cons_succ]; go_simp; (go_at_call 34; (with_reducible refine (QO.out _ (KA.out _ D.out).2.2.2.2.2).mono ?_); rintro e v12 ⟨b12, A12, n12, c12, rfl, h12, hb⟩; have D := Lib.hid (D.out.trans (hb.mono D.out.size)); have h12 := Lib.hid h12; clear hb); refine hK.out _ _ ?_ (fun hHeld => ?_); focus (intro _; exact (KA.out _ D.out).1)); have hHeld := hHeld (by decide); clear hK K; (try simp only [Act.put, List.setIfInBounds_toArray, List.set_cons_zero, List.set_cons_succ])
            (refine wpAnyL_one (i := 5) (o := _) (by kernel_rfl) rfl (fun K hK => ?_); clear hHeld; simp only [List.getElem_toArray, List.getElem_cons_zero, List.getElem_cons_succ]; go_simp; (go_at_call 33; (with_reducible refine (QSc.out _ _ (qv_mk h12.out)).mono ?_); rintro e v13 ⟨b13, A13, n13, c13, t13, z13, rfl, hz, y1, y2, y3, y4, hb⟩; have D := Lib.hid (D.out.trans (hb.mono D.out.size)); have Q13 := Lib.hid (RetS.qs hz y1 y2 y3 y4); clear hb hz y1 y2 y3 y4 h12); refine hK.out _ _ ?_ (fun hHeld => ?_); focus (intro _; exact (KA.out _ D.out).1)); have hHeld := hHeld (by decide); clear hK K; (try simp only [Act.put, List.setIfInBounds_toArray, List.set_cons_zero, List.set_cons_succ])
            (refine wpAnyL_one (i := 6) (o := _) (by kernel_rfl) rfl (fun K hK => ?_); clear hHeld; simp only [List.getElem_toArray, List.getElem_cons_zero, List.getElem_cons_succ]; go_simp; (go_at_call 21; (with_reducible refine (TS.out _ _ _ _ _ _ _ (KA.out _ D.out).2.2.2.2.1 Q13.out).mono ?_); rintro e v14 ⟨rfl, hb⟩; have D := Lib.hid (D.out.trans (hb.mono D.out.size)); clear hb Q13); refine hK.out _ _ ?_ (fun hHeld => ?_); focus (intro _; exact (KA.out _ D.out).1)); have hHeld := hHeld (by decide); clear hK K; (try simp only [Act.put, List.setIfInBounds_toArray, List.set_cons_zero, List.set_cons_succ])
            (refine wpAnyL_take (i := 7) (oi := _) (v := ?_) rfl (by kernel_rfl) (by kernel_rfl) (by kernel_rfl) (fun _ _ _ h => h) (Or.inl ⟨by first | rfl | kernel_rfl, ?hy68⟩) (by assumption) ?rs68; (case hy68 => (intro w hSw; (try dsimp only at hSw); go_simp; first | done | with_reducible rfl)); case' rs68 => (simp only [List.getElem_toArray, List.getElem_cons_zero, List.getElem_cons_succ, Act.put, List.setIfInBounds_toArray, List.set_cons_zero, List.set_cons_succ])); skip
            refine wpAnyL_done (by kernel_rfl) ?_ _
            obtain ⟨⟨⟨s0, s1, s2⟩, ⟨s3, s4, s5⟩, ⟨s6, s7, s8⟩, ⟨t0, t1, t2⟩, ⟨p0, p1, p2⟩, ⟨q0, q1, q2⟩⟩, -⟩ := KA.out _ D.out
            go_wp2_with (first
              | (go_at_call 20; (with_reducible refine (NO.out _ _ _).mono ?_); rintro e v10 ⟨rfl, hb⟩; have D := Lib.hid (D.out.trans (hb.mono D.out.size)); clear hb; obtain ⟨⟨⟨s0, s1, s2⟩, ⟨s3, s4, s5⟩, ⟨s6, s7, s8⟩, ⟨t0, t1, t2⟩, ⟨p0, p1, p2⟩, ⟨q0, q1, q2⟩⟩, -⟩ := KA.out _ D.out)
              | (go_at_call 24; (with_reducible refine (BT.out _).mono ?_); rintro e v11 ⟨rfl, rfl⟩))
            go_ret
            exact ⟨by first | rfl | simp, D0.out.trans ((D7.out.trans (D.out.mono D7.out.size)).mono D0.out.size)⟩
  · as_aux_lemma =>
        have he : E ≠ 0 := by rw [← hE]; split <;> assumption
        have r6 := SHE h2
        clear hE
        obtain ⟨r1, r2, r3, r4, r5⟩ := ERR he
        clear hk0 he0 hrx hry hrz hrs HK hg1 hg2 HG ERR SHE SHB
        have r2 := r2.symm
        subst r1; subst r2; subst r3; subst r4; subst r5
        have gv := (KA.out _ D.out).2
        obtain ⟨i1, i2, i3⟩ := (VD.none_iff gv.1).2 rfl
        obtain ⟨i4, i5, i6⟩ := (VD.none_iff gv.2.1).2 rfl
        obtain ⟨i7, i8, i9⟩ := (VD.none_iff gv.2.2.1).2 rfl
        subst i1; subst i2; subst i3; subst i4; subst i5; subst i6; subst i7; subst i8; subst i9
        have t9 : (E != 0) = true := by simp [he]
        have t8 : (E == 0) = false := by simp [he]
        clear gv
        subst r6
        obtain ⟨i1, i2, i3⟩ := (VD.none_iff (KA.out _ D.out).2.2.2.2.1).2 rfl
        subst i1; subst i2; subst i3
        obtain ⟨⟨⟨s0, s1, s2⟩, ⟨s3, s4, s5⟩, ⟨s6, s7, s8⟩, ⟨t0, t1, t2⟩, ⟨p0, p1, p2⟩, ⟨q0, q1, q2⟩⟩, -⟩ := KA.out _ D.out
        have t6 : (E2 != 0) = true := by simp [h2]
        have t7 : (E2 == 0) = false := by simp [h2]
        clear hm he h2
        go_wp2_with (first
          | (go_at_call 20; (with_reducible refine (NO.out _ _ _).mono ?_); rintro e v10 ⟨rfl, hb⟩; have D := Lib.hid (D.out.trans (hb.mono D.out.size)); clear hb; obtain ⟨⟨⟨s0, s1, s2⟩, ⟨s3, s4, s5⟩, ⟨s6, s7, s8⟩, ⟨t0, t1, t2⟩, ⟨p0, p1, p2⟩, ⟨q0, q1, q2⟩⟩, -⟩ := KA.out _ D.out))
        go_ret
        exact ⟨by first | rfl | simp, D0.out.trans ((D7.out.trans (D.out.mono D7.out.size)).mono D0.out.size)⟩
end QC
end Go.Proofs.YtjplemfdhhkbaaaDoor
