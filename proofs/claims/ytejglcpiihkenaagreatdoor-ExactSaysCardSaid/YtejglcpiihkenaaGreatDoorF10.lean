/-
  Texts glued together for a claim: R10.
-/
import Derived.Test.YtejglcpiihkenaaGreatDoorF8
/-
  Package round: multiple, Cut.
-/
namespace Go.Proofs.YtejglcpiihkenaaGreatDoor
set_option linter.unusedVariables false
set_option linter.unusedSimpArgs false
open Go.RowKit
set_option linter.unusedVariables false
set_option linter.unusedSimpArgs false
namespace RC
open L NC NK DC
open Z (Nz Tz cmpv)
theorem pv_zero' {w : World} {A : Option Addr} {n c : Nat} {z : Int} (h : PV w (.slice A n c) 0 z) : n = 0 ↔ z = 0 := by
  constructor
  · rintro rfl
    obtain ⟨l, l1, l2, l3, l4⟩ := h.nv
    have en := l1.len_.1
    have := List.length_eq_zero_iff.1 en.symm
    rw [this] at l4
    exact l4.symm
  · rintro rfl
    exact NV.zero h.nv
theorem multiple_c (b : Bool) (A : Option Addr) (n c : Nat) (z x : Int) (w : World) (h : PV w (.slice A n c) 0 z) (hx : -10000 ≤ x ∧ x ≤ 20000) (hT : TabD w) :
    Calls Tryz.prog 100 #[.bool b, .slice A n c, .int .i64 x] w (RetD w (fin (sgm b z) x)) := by
  obtain ⟨W0, hW0, D0, ZS, KB⟩ := res0 w
  have ez := pv_zero' h
  have KB := Lib.hid KB
  have HW0 := Lib.hid hW0
  have R0 := KB.out _ (Below.refl _ _)
  by_cases h0 : z = 0
  · have hn : ((n : Int) == 0) = true := by simp [ez.2 h0]
    rw [h0, show sgm b 0 = 0 by cases b <;> rfl, fin_zero]
    rw [← hW0] at R0 D0
    have t0 := R0.at_ 0 rfl; have t1 := R0.at_ 1 rfl; have t2 := R0.at_ 2 rfl; have f0 := R0.frozen 0; have f1 := R0.frozen 1; have f2 := R0.frozen 2
    have D0 := Lib.hid D0
    clear h hx hT hW0 R0 ez h0 ZS
    go_enter Tryz.func100, Tryz.ntmps100
    go_wp2
    exact bodyPost_ret (v := .tuple #[.agg #[.bool false, .slice none 0 0, .int .i64 0], .int .i64 0]) (by simp [results, Tryz.results100, go_sem, t0, t1, t2]) rfl
      (RetD.none D0.out)
  · have hn : ((n : Int) == 0) = false := by simp; exact fun h => h0 (ez.1 h)
    by_cases hb : x ≤ 10000
    · have hb' : ¬ x > 10000 := by omega
      have MK : Hid (Calls Tryz.prog 115 #[.bool b, .slice A n c, .int .i64 x] W0 (RetD W0 (fin (sgm b z) x))) := by
        have := Make_d b A n c 0 z x W0 (h.below D0) (hT.below D0)
        unfold Mk at this
        rwa [if_neg (by decide), if_neg (by omega)] at this
      generalize fin (sgm b z) x = r at *
      have D0 := Lib.hid D0
      clear h hx hT hW0 R0 ez h0 ZS hb
      go_enter Tryz.func100, Tryz.ntmps100
      go_wp2_with (first
        | (go_at_call 115; rw [HW0.out]; (with_reducible refine (MK.out).mono ?_); rintro e w6 ⟨bb, A5, n5, c5, x5, rfl, hv5, hb0⟩; have D := Lib.hid hb0; have R2 := KB.out _ D.out; have t0 := R2.at_ 0 rfl; have t1 := R2.at_ 1 rfl; have t2 := R2.at_ 2 rfl; have f0 := R2.frozen 0; have f1 := R2.frozen 1; have f2 := R2.frozen 2; have R2 := Lib.hid R2))
      exact bodyPost_ret (v := .tuple #[.agg #[.bool bb, .slice A5 n5 c5, .int .i64 x5], .int .i64 r.e]) (by simp [results, Tryz.results100, go_sem, t0, t1, t2]) rfl
        ⟨_, _, _, _, _, rfl, hv5.set3 R2.out _ _ _ (by intro z h; cases h) (by intro z h; cases h), below3 (D0.out.trans (D.out.mono D0.out.size)) (by omega) _ _ _⟩
    · have hb' : x > 10000 := by omega
      have e : fin (sgm b z) x = ⟨2, dz⟩ := by
        obtain ⟨o, o1, o2⟩ := tz_spec h0
        rw [fin_sg o1 o2, if_neg]
        intro hi
        have := hi.2.2.2
        omega
      rw [e]
      rw [← hW0] at R0 D0
      have t0 := R0.at_ 0 rfl; have t1 := R0.at_ 1 rfl; have t2 := R0.at_ 2 rfl; have f0 := R0.frozen 0; have f1 := R0.frozen 1; have f2 := R0.frozen 2
      have D0 := Lib.hid D0
      clear h hx hT hW0 R0 ez h0 ZS hb e
      go_enter Tryz.func100, Tryz.ntmps100
      go_wp2
      exact bodyPost_ret (v := .tuple #[.agg #[.bool false, .slice none 0 0, .int .i64 0], .int .i64 2]) (by simp [results, Tryz.results100, go_sem, t0, t1, t2]) rfl
        (RetD.none D0.out)
/-- what Cut tells -/
def cq (d : Dy) (places mode : Int) : Int :=
  if up (ng d) (decide (sh (d.m.natAbs : Int) (d.x - places + 1) / 2 % 2 = 1)) (decide (sh (d.m.natAbs : Int) (d.x - places + 1) % 2 = 1)) (lo (d.m.natAbs : Int) (d.x - places + 1)) mode = true then sh (d.m.natAbs : Int) (d.x - places + 1) / 2 + 1 else sh (d.m.natAbs : Int) (d.x - places + 1) / 2
def CR (d : Dy) (places mode : Int) : Re := if d.er ≠ 0 then ⟨d.er, dz⟩ else if ¬ ((0 ≤ mode ∧ mode ≤ 4) ∧ -20000 ≤ places ∧ places ≤ 20000) then ⟨1, dz⟩ else if d.m = 0 ∨ places ≤ d.x then ⟨0, d⟩ else fin (sgm (ng d) (cq d places mode)) places
def CL (d : Dy) (places mode : Int) : Bool := if d.er ≠ 0 ∨ ¬ ((0 ≤ mode ∧ mode ≤ 4) ∧ -20000 ≤ places ∧ places ≤ 20000) ∨ d.m = 0 ∨ places ≤ d.x then false else decide ((CR d places mode).e = 0)
def RetCt (w : World) (r : Re) (l : Bool) (e : Ending) (w' : World) : Prop :=
  ∃ b A n c x, e = .returned (.tuple #[.agg #[.bool b, .slice A n c, .int .i64 x], .bool l, .int .i64 r.e]) ∧ GV w' b A n c x r.d ∧ Below w.heap.size w w'
theorem RetCt.none {w w' : World} {er : Int} (hb : Below w.heap.size w w') : RetCt w ⟨er, dz⟩ false (.returned (.tuple #[.agg #[.bool false, .slice none 0 0, .int .i64 0], .bool false, .int .i64 er])) w' := ⟨_, _, _, _, _, rfl, GV.zero _, hb⟩
theorem Cut_err (v : Value) (d : Dy) (places mode : Int) (w : World) (h : DV w v d) (he : d.er ≠ 0) : Calls Tryz.prog 69 #[v, .int .i64 places, .int .i64 mode] w (RetCt w ⟨d.er, dz⟩ false) := by
  have C1 : ∀ W, Below w.heap.size w W → Calls Tryz.prog 79 #[v] W (DC.RetB W (.int .i64 d.er)) := fun W hW => Check_d v d W (h.below hW)
  obtain ⟨b1, A1, n1, c1, x1, l1, rfl, -, -, -, -, g1, -⟩ := h
  obtain ⟨W0, hW0, D0, KB⟩ := box1 w b1 A1 n1 c1 x1
  have C1 := Lib.hid (C1 W0 D0)
  have KB := Lib.hid KB
  have D0 := Lib.hid D0
  have HW0 := Lib.hid hW0
  have t9 : (d.er != 0) = true := by simp [he]
  generalize d.er = E at *
  clear he hW0 g1
  go_enter Tryz.func69, Tryz.ntmps69
  go_wp2_with (first
    | (go_at_call 79; rw [HW0.out]; (with_reducible refine (C1.out).mono ?_); rintro e w2 ⟨rfl, hb0⟩; have D := Lib.hid hb0; obtain ⟨⟨p0, p1, p2⟩, R2⟩ := KB.out _ D.out; have t0 := R2.at_ 0 rfl; have t1 := R2.at_ 1 rfl; have t2 := R2.at_ 2 rfl; have f0 := R2.frozen 0; have f1 := R2.frozen 1; have f2 := R2.frozen 2; have R2 := Lib.hid R2))
  exact bodyPost_ret (v := .tuple #[.agg #[.bool false, .slice none 0 0, .int .i64 0], .bool false, .int .i64 E]) (by simp [results, Tryz.results69, go_sem, t0, t1, t2]) rfl
    (RetCt.none (below3 (D0.out.trans (D.out.mono D0.out.size)) (by omega) _ _ _))
theorem Cut_arg (v : Value) (d : Dy) (places mode : Int) (w : World) (h : DV w v d) (he : d.er = 0) (ha : ¬ ((0 ≤ mode ∧ mode ≤ 4) ∧ -20000 ≤ places ∧ places ≤ 20000)) : Calls Tryz.prog 69 #[v, .int .i64 places, .int .i64 mode] w (RetCt w ⟨1, dz⟩ false) := by
  have C1 : ∀ W, Below w.heap.size w W → Calls Tryz.prog 79 #[v] W (DC.RetB W (.int .i64 d.er)) := fun W hW => Check_d v d W (h.below hW)
  obtain ⟨b1, A1, n1, c1, x1, l1, rfl, -, -, -, -, g1, -⟩ := h
  obtain ⟨W0, hW0, D0, KB⟩ := box1 w b1 A1 n1 c1 x1
  have C1 := Lib.hid (C1 W0 D0)
  have IM : Hid (∀ W, Calls Tryz.prog 80 #[.int .i64 mode] W (fun e w' => e = .returned (.bool (decide (0 ≤ mode ∧ mode ≤ 4))) ∧ W = w')) := fun W => isMode_c mode W
  have KB := Lib.hid KB
  have D0 := Lib.hid D0
  have HW0 := Lib.hid hW0
  rw [he] at C1
  clear hW0 g1 he
  have h3 : (¬ (0 ≤ mode ∧ mode ≤ 4)) ∨ ((0 ≤ mode ∧ mode ≤ 4) ∧ places < -20000) ∨ ((0 ≤ mode ∧ mode ≤ 4) ∧ ¬ places < -20000 ∧ places > 20000) := by omega
  clear ha
  rcases h3 with hm | ⟨hm, h4⟩ | ⟨hm, h4, h5⟩
  · rw [decide_eq_false hm] at IM
    clear hm
    go_enter Tryz.func69, Tryz.ntmps69
    go_wp2_with (first
      | (go_at_call 79; rw [HW0.out]; (with_reducible refine (C1.out).mono ?_); rintro e w2 ⟨rfl, hb0⟩; have D := Lib.hid hb0; obtain ⟨⟨p0, p1, p2⟩, R2⟩ := KB.out _ D.out; have t0 := R2.at_ 0 rfl; have t1 := R2.at_ 1 rfl; have t2 := R2.at_ 2 rfl; have f0 := R2.frozen 0; have f1 := R2.frozen 1; have f2 := R2.frozen 2; have R2 := Lib.hid R2)
      | (go_at_call 80; (with_reducible refine (IM.out _).mono ?_); rintro e w3 ⟨rfl, rfl⟩))
    exact bodyPost_ret (v := .tuple #[.agg #[.bool false, .slice none 0 0, .int .i64 0], .bool false, .int .i64 1]) (by simp [results, Tryz.results69, go_sem, t0, t1, t2]) rfl
      (RetCt.none (below3 (D0.out.trans (D.out.mono D0.out.size)) (by omega) _ _ _))
  · rw [decide_eq_true hm] at IM
    clear hm
    go_enter Tryz.func69, Tryz.ntmps69
    go_wp2_with (first
      | (go_at_call 79; rw [HW0.out]; (with_reducible refine (C1.out).mono ?_); rintro e w2 ⟨rfl, hb0⟩; have D := Lib.hid hb0; obtain ⟨⟨p0, p1, p2⟩, R2⟩ := KB.out _ D.out; have t0 := R2.at_ 0 rfl; have t1 := R2.at_ 1 rfl; have t2 := R2.at_ 2 rfl; have f0 := R2.frozen 0; have f1 := R2.frozen 1; have f2 := R2.frozen 2; have R2 := Lib.hid R2)
      | (go_at_call 80; (with_reducible refine (IM.out _).mono ?_); rintro e w3 ⟨rfl, rfl⟩))
    exact bodyPost_ret (v := .tuple #[.agg #[.bool false, .slice none 0 0, .int .i64 0], .bool false, .int .i64 1]) (by simp [results, Tryz.results69, go_sem, t0, t1, t2]) rfl
      (RetCt.none (below3 (D0.out.trans (D.out.mono D0.out.size)) (by omega) _ _ _))
  · rw [decide_eq_true hm] at IM
    clear hm
    go_enter Tryz.func69, Tryz.ntmps69
    go_wp2_with (first
      | (go_at_call 79; rw [HW0.out]; (with_reducible refine (C1.out).mono ?_); rintro e w2 ⟨rfl, hb0⟩; have D := Lib.hid hb0; obtain ⟨⟨p0, p1, p2⟩, R2⟩ := KB.out _ D.out; have t0 := R2.at_ 0 rfl; have t1 := R2.at_ 1 rfl; have t2 := R2.at_ 2 rfl; have f0 := R2.frozen 0; have f1 := R2.frozen 1; have f2 := R2.frozen 2; have R2 := Lib.hid R2)
      | (go_at_call 80; (with_reducible refine (IM.out _).mono ?_); rintro e w3 ⟨rfl, rfl⟩))
    exact bodyPost_ret (v := .tuple #[.agg #[.bool false, .slice none 0 0, .int .i64 0], .bool false, .int .i64 1]) (by simp [results, Tryz.results69, go_sem, t0, t1, t2]) rfl
      (RetCt.none (below3 (D0.out.trans (D.out.mono D0.out.size)) (by omega) _ _ _))
set_option maxRecDepth 100000 in
theorem Cut_same (v : Value) (d : Dy) (places mode : Int) (w : World) (h : DV w v d) (he : d.er = 0) (hm : 0 ≤ mode ∧ mode ≤ 4) (hp : -20000 ≤ places ∧ places ≤ 20000) (hs : d.m = 0 ∨ places ≤ d.x) (hT : TabD w) : Calls Tryz.prog 69 #[v, .int .i64 places, .int .i64 mode] w (RetCt w ⟨0, d⟩ false) := by
  have H := Lib.hid h
  have C1 : ∀ W, Below w.heap.size w W → Calls Tryz.prog 79 #[v] W (DC.RetB W (.int .i64 d.er)) := fun W hW => Check_d v d W (h.below hW)
  have eS : Shf d 0 = ⟨0, d⟩ := by
    have g := h.good he
    unfold Shf
    rw [if_neg (by simpa using he), if_neg (by omega), Int.add_zero]
    exact fin_self he fun _ => ⟨g.2.1, g.2.2⟩
  obtain ⟨b1, A1, n1, c1, x1, l1, rfl, -, -, -, -, g1, -⟩ := h
  obtain ⟨W0, hW0, D0, KB⟩ := box1 w b1 A1 n1 c1 x1
  have C1 := Lib.hid (C1 W0 D0)
  have IM : Hid (∀ W, Calls Tryz.prog 80 #[.int .i64 mode] W (fun e w' => e = .returned (.bool (decide (0 ≤ mode ∧ mode ≤ 4))) ∧ W = w')) := fun W => isMode_c mode W
  rw [decide_eq_true hm] at IM
  have IZ : Hid (∀ W, Calls Tryz.prog 94 #[.agg #[.bool b1, .slice A1 n1 c1, .int .i64 x1]] W (DC.RetB W (.bool (decide (n1 = 0))))) := fun W => isZero_c b1 A1 n1 c1 x1 W
  have SH : Hid (∀ W, Below W0.heap.size W0 W → Calls Tryz.prog 95 #[.agg #[.bool b1, .slice A1 n1 c1, .int .i64 x1], .int .i64 0] W (RetD W ⟨0, d⟩)) := fun W hW => by
    have := Shift_d _ d 0 W ((H.out.below D0).below hW) ((hT.below D0).below hW)
    rwa [eS] at this
  have KB := Lib.hid KB
  have D0 := Lib.hid D0
  have HW0 := Lib.hid hW0
  have g := g1 he
  have ez := gv_zero g
  have ex := g.2.2.1
  rw [he] at C1
  have h4 : ¬ places < -20000 := by omega
  have h5 : ¬ places > 20000 := by omega
  have hs2 : n1 = 0 ∨ (n1 ≠ 0 ∧ x1 ≥ places) := by
    by_cases h : n1 = 0
    · exact .inl h
    · right
      refine ⟨h, ?_⟩
      rcases hs with h2 | h2
      · exact absurd (ez.2 h2) h
      · omega
  clear hW0 g1 he hm hp hs hT g ez ex eS H
  rcases hs2 with rfl | ⟨h6, h7⟩
  · rw [show decide (0 = 0) = true from rfl] at IZ
    go_enter Tryz.func69, Tryz.ntmps69
    go_wp2_with (first
      | (go_at_call 79; rw [HW0.out]; (with_reducible refine (C1.out).mono ?_); rintro e w2 ⟨rfl, hb0⟩; have D := Lib.hid hb0; obtain ⟨⟨p0, p1, p2⟩, R2⟩ := KB.out _ D.out)
      | (go_at_call 80; (with_reducible refine (IM.out _).mono ?_); rintro e w3 ⟨rfl, rfl⟩)
      | (go_at_call 94; (with_reducible refine (IZ.out _).mono ?_); rintro e w4 ⟨rfl, hb0⟩; have D := Lib.hid (D.out.trans (hb0.mono D.out.size)); obtain ⟨⟨p0, p1, p2⟩, R2⟩ := KB.out _ D.out)
      | (go_at_call 95; (with_reducible refine (SH.out _ D.out).mono ?_); rintro e w5 ⟨b5, A5, n5, c5, x5, rfl, hv5, hb0⟩; have s := hb0.alloc hb0.size (.cells #[.bool b5, .slice A5 n5 c5, .int .i64 x5] 60); have D := Lib.hid (D.out.trans (s.mono D.out.size)); have hv6 := hv5.below (al1 w5 (.cells #[.bool b5, .slice A5 n5 c5, .int .i64 x5] 60)); obtain ⟨-, R2⟩ := KB.out _ D.out; have t0 := R2.at_ 0 rfl; have t1 := R2.at_ 1 rfl; have t2 := R2.at_ 2 rfl; have f0 := R2.frozen 0; have f1 := R2.frozen 1; have f2 := R2.frozen 2; have R2 := Lib.hid R2))
    exact bodyPost_ret (v := .tuple #[.agg #[.bool b5, .slice A5 n5 c5, .int .i64 x5], .bool false, .int .i64 0]) (by simp [results, Tryz.results69, go_sem, t0, t1, t2]) rfl
      ⟨_, _, _, _, _, rfl, hv6.set3 R2.out _ _ _ (by intro z h; cases h) (by intro z h; cases h), below3 (D0.out.trans (D.out.mono D0.out.size)) (by omega) _ _ _⟩
  · rw [show decide (n1 = 0) = false by simp [h6]] at IZ
    clear h6
    go_enter Tryz.func69, Tryz.ntmps69
    go_wp2_with (first
      | (go_at_call 79; rw [HW0.out]; (with_reducible refine (C1.out).mono ?_); rintro e w2 ⟨rfl, hb0⟩; have D := Lib.hid hb0; obtain ⟨⟨p0, p1, p2⟩, R2⟩ := KB.out _ D.out)
      | (go_at_call 80; (with_reducible refine (IM.out _).mono ?_); rintro e w3 ⟨rfl, rfl⟩)
      | (go_at_call 94; (with_reducible refine (IZ.out _).mono ?_); rintro e w4 ⟨rfl, hb0⟩; have D := Lib.hid (D.out.trans (hb0.mono D.out.size)); obtain ⟨⟨p0, p1, p2⟩, R2⟩ := KB.out _ D.out)
      | (go_at_call 95; (with_reducible refine (SH.out _ D.out).mono ?_); rintro e w5 ⟨b5, A5, n5, c5, x5, rfl, hv5, hb0⟩; have s := hb0.alloc hb0.size (.cells #[.bool b5, .slice A5 n5 c5, .int .i64 x5] 60); have D := Lib.hid (D.out.trans (s.mono D.out.size)); have hv6 := hv5.below (al1 w5 (.cells #[.bool b5, .slice A5 n5 c5, .int .i64 x5] 60)); obtain ⟨-, R2⟩ := KB.out _ D.out; have t0 := R2.at_ 0 rfl; have t1 := R2.at_ 1 rfl; have t2 := R2.at_ 2 rfl; have f0 := R2.frozen 0; have f1 := R2.frozen 1; have f2 := R2.frozen 2; have R2 := Lib.hid R2))
    exact bodyPost_ret (v := .tuple #[.agg #[.bool b5, .slice A5 n5 c5, .int .i64 x5], .bool false, .int .i64 0]) (by simp [results, Tryz.results69, go_sem, t0, t1, t2]) rfl
      ⟨_, _, _, _, _, rfl, hv6.set3 R2.out _ _ _ (by intro z h; cases h) (by intro z h; cases h), below3 (D0.out.trans (D.out.mono D0.out.size)) (by omega) _ _ _⟩
set_option maxRecDepth 100000 in
set_option maxHeartbeats 4000000 in
theorem Cut_lost (v : Value) (d : Dy) (places mode : Int) (w : World) (h : DV w v d) (he : d.er = 0) (hm : 0 ≤ mode ∧ mode ≤ 4) (hp : -20000 ≤ places ∧ places ≤ 20000) (hs : d.m ≠ 0 ∧ d.x < places) (hT : TabD w) :
    Calls Tryz.prog 69 #[v, .int .i64 places, .int .i64 mode] w (RetCt w (fin (sgm (ng d) (cq d places mode)) places) (decide ((fin (sgm (ng d) (cq d places mode)) places).e = 0))) := by
  have C1 : ∀ W, Below w.heap.size w W → Calls Tryz.prog 79 #[v] W (DC.RetB W (.int .i64 d.er)) := fun W hW => Check_d v d W (h.below hW)
  obtain ⟨b1, A1, n1, c1, x1, l1, rfl, -, -, -, -, g1, -⟩ := h
  obtain ⟨W0, hW0, D0, KB⟩ := box1 w b1 A1 n1 c1 x1
  have C1 := Lib.hid (C1 W0 D0)
  have IM : Hid (∀ W, Calls Tryz.prog 80 #[.int .i64 mode] W (fun e w' => e = .returned (.bool (decide (0 ≤ mode ∧ mode ≤ 4))) ∧ W = w')) := fun W => isMode_c mode W
  rw [decide_eq_true hm] at IM
  have IZ : Hid (∀ W, Calls Tryz.prog 94 #[.agg #[.bool b1, .slice A1 n1 c1, .int .i64 x1]] W (DC.RetB W (.bool (decide (n1 = 0))))) := fun W => isZero_c b1 A1 n1 c1 x1 W
  have KB := Lib.hid KB
  have g := g1 he
  have ez := gv_zero g
  have ex := g.2.2.1
  have eb := g.2.1
  have hx := g.2.2.2.2.2.2.2
  have hz := abs_small g.2.2.2.2.2
  rw [he] at C1
  rw [show decide (n1 = 0) = false by simp; exact fun h => hs.1 (ez.1 h)] at IZ
  have h4 : ¬ places < -20000 := by omega
  have h5 : ¬ places > 20000 := by omega
  have h7 : ¬ x1 ≥ places := by omega
  have i1 : IntKind.i64.wrap (x1 - places) = x1 - places := IntWalk.i64_in _ (by omega)
  have hk : d.x - places + 1 ≤ 0 := by omega
  -- what is kept is no more than it was
  have hH : 0 ≤ sh (d.m.natAbs : Int) (d.x - places + 1) ∧ sh (d.m.natAbs : Int) (d.x - places + 1) < 4294967296 ^ 400 := by
    refine ⟨sh_pos (by omega) _, ?_⟩
    unfold sh
    split
    · rw [show (d.x - places + 1).toNat = 0 by omega, Int.pow_zero, Int.mul_one]; exact hz
    · have h1 := two_pos' (-(d.x - places + 1)).toNat
      exact Int.lt_of_le_of_lt (Int.ediv_le_self _ (by omega)) hz
  have SP : Hid (∀ W, Below W0.heap.size W0 W → Calls Tryz.prog 96 #[.slice A1 n1 c1, .int .i64 (x1 - places)] W (RetSp W (sh (d.m.natAbs : Int) (d.x - places + 1) / 2) (decide (sh (d.m.natAbs : Int) (d.x - places + 1) % 2 = 1)) (lo (d.m.natAbs : Int) (d.x - places + 1)))) := fun W hW => by
    rw [ex]
    exact split_c _ _ (d.x - places) W ((g.pv.below D0).below hW) (by omega) (by omega) hH.2 ((hT.below D0).below hW)
  have hq' : ∀ q, q = cq d places mode → 0 ≤ q ∧ q < 4294967296 ^ 400 := fun q hq => by
    rw [hq]; unfold cq
    generalize sh (d.m.natAbs : Int) (d.x - places + 1) = H at *
    have h6 : (4294967296 : Int) ^ 1 ≤ 4294967296 ^ 400 := pow_mono (by decide)
    generalize (4294967296 : Int) ^ 400 = c400 at *
    split <;> omega
  unfold cq at *
  obtain ⟨H, hHe⟩ : ∃ H, sh (d.m.natAbs : Int) (d.x - places + 1) = H := ⟨_, rfl⟩
  obtain ⟨m, hme⟩ : ∃ m, lo (d.m.natAbs : Int) (d.x - places + 1) = m := ⟨_, rfl⟩
  rw [hHe, hme] at SP hq' ⊢
  rw [hHe] at hH
  obtain ⟨hf, hfe⟩ : ∃ hf, decide (H % 2 = 1) = hf := ⟨_, rfl⟩
  obtain ⟨u, hu⟩ : ∃ u, up (ng d) (decide (H / 2 % 2 = 1)) hf m mode = u := ⟨_, rfl⟩
  have AW : Hid (∀ W, Calls Tryz.prog 97 #[.agg #[.bool hf, .bool m], .bool b1, .bool (decide (H / 2 % 2 = 1)), .int .i64 mode] W (DC.RetB W (.bool u))) := fun W => by
    have := away_c hf m b1 (decide (H / 2 % 2 = 1)) mode W
    rw [eb] at this ⊢
    rwa [show up (decide (d.m < 0)) (decide (H / 2 % 2 = 1)) hf m mode = u from hu] at this
  rw [hfe] at SP hq' ⊢
  rw [hu] at hq' ⊢
  obtain ⟨q, hqe⟩ : ∃ q, H / 2 = q := ⟨_, rfl⟩
  rw [hqe] at SP AW hq' ⊢
  have IO : Hid (∀ W A n c, NV W (.slice A n c) q → Calls Tryz.prog 98 #[.slice A n c] W (fun e w' => e = .returned (.bool (decide (q % 2 = 1))) ∧ W = w')) := fun W A n c hv => isOdd_c A n c q W hv
  have OF : Hid (∀ W, Calls Tryz.prog 67 #[.int .u64 1] W (RetV W 1)) := fun W => Of_c 1 W (by omega)
  have q2 : 0 ≤ q ∧ q < 4294967296 ^ 400 := by
    generalize (4294967296 : Int) ^ 400 = c400 at *
    omega
  have AD : Hid (∀ W A n c A' n' c', u = true → NV W (.slice A n c) q → NV W (.slice A' n' c') 1 → Calls Tryz.prog 99 #[.slice A n c, .slice A' n' c'] W (RetP W 0 (q + 1))) := fun W A n c A' n' c' hu g1 g2 => by
    have q1 := g1.pv (Int.lt_of_lt_of_le q2.2 p400_big)
    rw [erz_0 q2.2] at q1
    have q3 := g2.pv (small_big (by decide))
    rw [erz0 (by decide)] at q3
    exact Add_p q1 q3
  have MU : Hid (∀ W A n c y, y = (if u = true then q + 1 else q) → Below W0.heap.size W0 W → NV W (.slice A n c) y → Calls Tryz.prog 100 #[.bool b1, .slice A n c, .int .i64 places] W (RetD W (fin (sgm (ng d) (if u = true then q + 1 else q)) places))) := fun W A n c y hy hW hv => by
    have k := hq' _ rfl
    rw [← hy] at k ⊢
    have q1 := hv.pv (Int.lt_of_lt_of_le k.2 p400_big)
    rw [erz_0 k.2] at q1
    have := multiple_c b1 A n c y places W q1 (by omega) ((hT.below D0).below hW)
    rw [eb] at this ⊢
    exact this
  generalize fin (sgm (ng d) (if u = true then q + 1 else q)) places = r at *
  have D0 := Lib.hid D0
  have HW0 := Lib.hid hW0
  clear hW0 g1 he hm hp hs hT g ez ex eb hx hz hk hH hq' hHe hme hfe hu hqe q2
  go_enter Tryz.func69, Tryz.ntmps69
  go_upto_region 10 with (first
    | (go_at_call 79; rw [HW0.out]; (with_reducible refine (C1.out).mono ?_); rintro e w2 ⟨rfl, hb0⟩; have D := Lib.hid hb0; obtain ⟨⟨p0, p1, p2⟩, R2⟩ := KB.out _ D.out)
    | (go_at_call 80; (with_reducible refine (IM.out _).mono ?_); rintro e w3 ⟨rfl, rfl⟩)
    | (go_at_call 94; (with_reducible refine (IZ.out _).mono ?_); rintro e w4 ⟨rfl, hb0⟩; have D := Lib.hid (D.out.trans (hb0.mono D.out.size)); obtain ⟨⟨p0, p1, p2⟩, R2⟩ := KB.out _ D.out)
    | (go_at_call 96; (with_reducible refine (SP.out _ D.out).mono ?_); rintro e w5 ⟨A5, n5, c5, rfl, hv5, hb5⟩; have D := Lib.hid (D.out.trans (hb5.mono D.out.size))))
  have N8 := Blk.new w5 113 #[.bool hf, .bool m]
  have D6 := D.out.alloc D.out.size (.cells #[.bool hf, .bool m] 113)
  have V6 := hv5.below (al1 w5 (.cells #[.bool hf, .bool m] 113))
  obtain ⟨w6, hw6⟩ : ∃ w6, w5.alloc (.cells #[.bool hf, .bool m] 113) = w6 := ⟨_, rfl⟩
  obtain ⟨g8, hg8⟩ : ∃ g8, w5.heap.size = g8 := ⟨_, rfl⟩
  rw [hw6] at N8 D6 V6 ⊢
  rw [hg8] at N8 ⊢
  have D := Lib.hid D6
  clear hw6 hg8 D6 hv5 hb5 R2 p0 p1 p2
  obtain ⟨⟨p0, p1, p2⟩, R2⟩ := KB.out _ D.out
  have n0 := N8.at_ 0 rfl; have n1' := N8.at_ 1 rfl
  have V9 : NV w6.drew (.slice A5 n5 c5) q := V6
  (refine wp_region_L (S := fun w' => (w'.cell? ⟨g8, 0, none⟩ = some (.bool hf) ∧ w'.cell? ⟨g8, 1, none⟩ = some (.bool m)) ∧ w'.cell? ⟨w.heap.size, 0, none⟩ = some (.bool b1)) (nl := 1000000) (by kernel_rfl) ?_ (fun hHeld => ?_); focus (exact ⟨⟨n0, n1'⟩, p0⟩))
  (refine wpAnyL_take (i := 0) (oi := _) (v := ?_) rfl (by kernel_rfl) (by kernel_rfl) (by kernel_rfl) (fun _ _ _ h => h) (Or.inl ⟨by first | rfl | kernel_rfl, ?hy1⟩) (by assumption) ?rs1; (case hy1 => (intro w hSw; (try dsimp only at hSw); go_simp; first | done | with_reducible rfl)); case' rs1 => (simp only [List.getElem_toArray, List.getElem_cons_zero, List.getElem_cons_succ, Act.put, List.setIfInBounds_toArray, List.set_cons_zero, List.set_cons_succ])); (refine wpAnyL_take (i := 1) (oi := _) (v := ?_) rfl (by kernel_rfl) (by kernel_rfl) (by kernel_rfl) (fun _ _ _ h => h) (Or.inl ⟨by first | rfl | kernel_rfl, ?hy2⟩) (by assumption) ?rs2; (case hy2 => (intro w hSw; (try dsimp only at hSw); go_simp; first | done | with_reducible rfl)); case' rs2 => (simp only [List.getElem_toArray, List.getElem_cons_zero, List.getElem_cons_succ, Act.put, List.setIfInBounds_toArray, List.set_cons_zero, List.set_cons_succ])); (refine wpAnyL_take (i := 2) (oi := _) (v := ?_) rfl (by kernel_rfl) (by kernel_rfl) (by kernel_rfl) (fun _ _ _ h => h) (Or.inl ⟨by first | rfl | kernel_rfl, ?hy3⟩) (by assumption) ?rs3; (case hy3 => (intro w hSw; (try dsimp only at hSw); go_simp; first | done | with_reducible rfl)); case' rs3 => (simp only [List.getElem_toArray, List.getElem_cons_zero, List.getElem_cons_succ, Act.put, List.setIfInBounds_toArray, List.set_cons_zero, List.set_cons_succ])); (refine wpAnyL_take (i := 3) (oi := _) (v := ?_) rfl (by kernel_rfl) (by kernel_rfl) (by kernel_rfl) (fun _ _ _ h => h) (Or.inl ⟨by first | rfl | kernel_rfl, ?hy4⟩) (by assumption) ?rs4; (case hy4 => (intro w hSw; (try dsimp only at hSw); go_simp; first | done | with_reducible rfl)); case' rs4 => (simp only [List.getElem_toArray, List.getElem_cons_zero, List.getElem_cons_succ, Act.put, List.setIfInBounds_toArray, List.set_cons_zero, List.set_cons_succ])); (refine wpAnyL_take (i := 5) (oi := _) (v := ?_) rfl (by kernel_rfl) (by kernel_rfl) (by kernel_rfl) (fun _ _ _ h => h) (Or.inl ⟨by first | rfl | kernel_rfl, ?hy5⟩) (by assumption) ?rs5; (case hy5 => (intro w hSw; (try dsimp only at hSw); go_simp; first | done | with_reducible rfl)); case' rs5 => (simp only [List.getElem_toArray, List.getElem_cons_zero, List.getElem_cons_succ, Act.put, List.setIfInBounds_toArray, List.set_cons_zero, List.set_cons_succ])); skip
  (refine wpAnyL_one (i := 4) (o := _) (by kernel_rfl) rfl (fun K hK => ?_); clear hHeld; simp only [List.getElem_toArray, List.getElem_cons_zero, List.getElem_cons_succ]; go_simp; (go_at_call 98; (with_reducible refine (IO.out _ _ _ _ V9).mono ?_); rintro e w7 ⟨rfl, rfl⟩); refine hK.out _ _ ?_ (fun hHeld => ?_); focus (intro _; exact ⟨⟨n0, n1'⟩, p0⟩)); have hHeld := hHeld (by decide); clear hK K; (try simp only [Act.put, List.setIfInBounds_toArray, List.set_cons_zero, List.set_cons_succ])
  (refine wpAnyL_one (i := 6) (o := _) (by kernel_rfl) rfl (fun K hK => ?_); clear hHeld; simp only [List.getElem_toArray, List.getElem_cons_zero, List.getElem_cons_succ]; go_simp; (go_at_call 97; (with_reducible refine (AW.out _).mono ?_); rintro e w8 ⟨rfl, hb8⟩; have D := Lib.hid (D.out.drew.trans (hb8.mono D.out.size)); have N8 := N8.drew.below hb8 N8.lt; have V8 := V9.below hb8; obtain ⟨⟨p0, p1, p2⟩, R2⟩ := KB.out _ D.out; have n0 := N8.at_ 0 rfl; have n1' := N8.at_ 1 rfl); refine hK.out _ _ ?_ (fun hHeld => ?_); focus (intro _; exact ⟨⟨n0, n1'⟩, p0⟩)); have hHeld := hHeld (by decide); clear hK K; (try simp only [Act.put, List.setIfInBounds_toArray, List.set_cons_zero, List.set_cons_succ])
  refine wpAnyL_done (by kernel_rfl) ?_ _
  clear R2
  cases u
  · go_wp2_with (first
      | (go_at_call 100; (with_reducible refine (MU.out _ _ _ _ q rfl D.out V8).mono ?_); rintro e w9 ⟨b9, A9, n9, c9, x9, rfl, hv9, hb9⟩; have s := hb9.alloc hb9.size (.cells #[.bool b9, .slice A9 n9 c9, .int .i64 x9] 60); have D := Lib.hid (D.out.trans (s.mono D.out.size)); have hv10 := hv9.below (al1 w9 (.cells #[.bool b9, .slice A9 n9 c9, .int .i64 x9] 60)); obtain ⟨-, R2⟩ := KB.out _ D.out; have t0 := R2.at_ 0 rfl; have t1 := R2.at_ 1 rfl; have t2 := R2.at_ 2 rfl; have f0 := R2.frozen 0; have f1 := R2.frozen 1; have f2 := R2.frozen 2; have R2 := Lib.hid R2))
    exact bodyPost_ret (v := .tuple #[.agg #[.bool b9, .slice A9 n9 c9, .int .i64 x9], .bool (decide (r.e = 0)), .int .i64 r.e]) (by simp [results, Tryz.results69, go_sem, t0, t1, t2]; rfl) rfl
      ⟨_, _, _, _, _, rfl, hv10.set3 R2.out _ _ _ (by intro z h; cases h) (by intro z h; cases h), below3 (D0.out.trans (D.out.mono D0.out.size)) (by omega) _ _ _⟩
  · go_wp2_with (first
      | (go_at_call 67; (with_reducible refine (OF.out _).mono ?_); rintro e wa ⟨Aa, na, ca, rfl, hva, hba⟩; have V8 := V8.below hba; have D := Lib.hid (D.out.trans (hba.mono D.out.size)))
      | (go_at_call 99; (with_reducible refine (AD.out _ _ _ _ _ _ _ (by first | trivial | rfl) V8 hva).mono ?_); rintro e wb ⟨Ab, nb, cb, rfl, hpb, hvb, hbb⟩; have D := Lib.hid (D.out.trans (hbb.mono D.out.size)); obtain ⟨⟨p0, p1, p2⟩, -⟩ := KB.out _ D.out)
      | (go_at_call 100; (with_reducible refine (MU.out _ _ _ _ (q + 1) (by simp) D.out hvb).mono ?_); rintro e w9 ⟨b9, A9, n9, c9, x9, rfl, hv9, hb9⟩; have s := hb9.alloc hb9.size (.cells #[.bool b9, .slice A9 n9 c9, .int .i64 x9] 60); have D := Lib.hid (D.out.trans (s.mono D.out.size)); have hv10 := hv9.below (al1 w9 (.cells #[.bool b9, .slice A9 n9 c9, .int .i64 x9] 60)); obtain ⟨-, R2⟩ := KB.out _ D.out; have t0 := R2.at_ 0 rfl; have t1 := R2.at_ 1 rfl; have t2 := R2.at_ 2 rfl; have f0 := R2.frozen 0; have f1 := R2.frozen 1; have f2 := R2.frozen 2; have R2 := Lib.hid R2))
    exact bodyPost_ret (v := .tuple #[.agg #[.bool b9, .slice A9 n9 c9, .int .i64 x9], .bool (decide (r.e = 0)), .int .i64 r.e]) (by simp [results, Tryz.results69, go_sem, t0, t1, t2]; rfl) rfl
      ⟨_, _, _, _, _, rfl, hv10.set3 R2.out _ _ _ (by intro z h; cases h) (by intro z h; cases h), below3 (D0.out.trans (D.out.mono D0.out.size)) (by omega) _ _ _⟩
theorem Cut_d (v : Value) (d : Dy) (places mode : Int) (w : World) (h : DV w v d) (hT : TabD w) : Calls Tryz.prog 69 #[v, .int .i64 places, .int .i64 mode] w (RetCt w (CR d places mode) (CL d places mode)) := by
  unfold CL
  by_cases he : d.er = 0
  · by_cases ha : (0 ≤ mode ∧ mode ≤ 4) ∧ -20000 ≤ places ∧ places ≤ 20000
    · by_cases hs : d.m = 0 ∨ places ≤ d.x
      · have e : CR d places mode = ⟨0, d⟩ := by unfold CR; rw [if_neg (by simpa using he), if_neg (fun h => h ha), if_pos hs]
        rw [e, if_pos (.inr (.inr hs))]
        exact Cut_same v d places mode w h he ha.1 ha.2 hs hT
      · have e : CR d places mode = fin (sgm (ng d) (cq d places mode)) places := by unfold CR; rw [if_neg (by simpa using he), if_neg (fun h => h ha), if_neg hs]
        rw [e, if_neg (fun h => by rcases h with h | h | h; exact h he; exact h ha; exact hs h)]
        exact Cut_lost v d places mode w h he ha.1 ha.2 ⟨fun h => hs (.inl h), by omega⟩ hT
    · have e : CR d places mode = ⟨1, dz⟩ := by unfold CR; rw [if_neg (by simpa using he), if_pos ha]
      rw [e, if_pos (.inr (.inl ha))]
      exact Cut_arg v d places mode w h he ha
  · have e : CR d places mode = ⟨d.er, dz⟩ := by unfold CR; rw [if_pos he]
    rw [e, if_pos (.inl he)]
    exact Cut_err v d places mode w h he
end RC
end Go.Proofs.YtejglcpiihkenaaGreatDoor

