/-
  Texts glued together for a claim: Z13 ZSg Q1 Q2 Q3 Q4 Q5.
-/
import Derived.Test.YtelblhgagpkjmaaGreatDoorF2
import Derived.Test.YtelblhgagpkjmaaGreatDoorF1
/-
  The reference's whole numbers: how often, and what is left (ZDiv).
-/
namespace Go.Proofs.YtelblhgagpkjmaaGreatDoor
set_option linter.unusedVariables false
set_option linter.unusedSimpArgs false
open Go.RowKit
set_option linter.unusedVariables false
theorem Sl.drew {k : IntKind} {w : World} {s : Value} {L : List Int} (h : Sl k w s L) : Sl k w.drew s L := h
namespace ZC
open Z
/-- the memory of a division under way: the boxes of what was handed in and of the results; from g on: the box of the divisor without its sign, the quotient's digits, its box, the remainder's box -/
structure DM (w w1 wr : World) (g n : Nat) (xa xb vb vr : Array Value) (QL : List Int) : Prop where
  b0 : Blk wr w.heap.size 39 xa
  b1 : Blk wr (w.heap.size + 1) 39 xb
  b2 : Blk wr (w.heap.size + 2) 39 #[.bool false, .slice none 0 0]
  b3 : Blk wr (w.heap.size + 3) 39 #[.bool false, .slice none 0 0]
  bb : Blk wr g 39 vb
  bs : Row .i64 3 wr (g + 1) QL
  bq : Blk wr (g + 2) 39 #[.bool false, .slice (some ⟨g + 1, 0, none⟩) n n]
  br : Blk wr (g + 3) 39 vr
  hg : w.heap.size + 4 ≤ g
  lo : Below w.heap.size w wr
  bw : Below g w1 wr
section
variable {w w1 wr w' : World} {g n : Nat} {xa xb vb vr : Array Value} {QL : List Int}
theorem DM.sz (h : DM w w1 wr g n xa xb vb vr QL) : g + 4 ≤ wr.heap.size := h.br.lt
theorem DM.below (h : DM w w1 wr g n xa xb vb vr QL) (hb : Below wr.heap.size wr w') : DM w w1 w' g n xa xb vb vr QL :=
  ⟨h.b0.below hb h.b0.lt, h.b1.below hb h.b1.lt, h.b2.below hb h.b2.lt, h.b3.below hb h.b3.lt, h.bb.below hb h.bb.lt, Blk.below h.bs hb h.bs.lt, h.bq.below hb h.bq.lt, h.br.below hb h.br.lt, h.hg, h.lo.trans (hb.mono h.lo.size), h.bw.trans (hb.mono (by have := h.sz; omega))⟩
theorem DM.alloc (h : DM w w1 wr g n xa xb vb vr QL) (o : Obj) : DM w w1 (wr.alloc o) g n xa xb vb vr QL := h.below (below1 _ _)
theorem DM.drew (h : DM w w1 wr g n xa xb vb vr QL) : DM w w1 wr.drew g n xa xb vb vr QL := ⟨h.b0, h.b1, h.b2, h.b3, h.bb, h.bs, h.bq, h.br, h.hg, h.lo.drew, h.bw.drew⟩
theorem DM.high (h : DM w w1 wr g n xa xb vb vr QL) {p : Addr} (hp : g + 4 ≤ p.block) (u : Value) : DM w w1 (wr.setCell p u) g n xa xb vb vr QL := by
  have := h.hg
  exact ⟨h.b0.far (by omega) u, h.b1.far (by omega) u, h.b2.far (by omega) u, h.b3.far (by omega) u, h.bb.far (by omega) u, Blk.far h.bs (by omega) u, h.bq.far (by omega) u, h.br.far (by omega) u, h.hg, h.lo.setCell (by omega) u, h.bw.setCell (by omega) u⟩
theorem DM.setR {r0 r1 : Value} (h : DM w w1 wr g n xa xb vb #[r0, r1] QL) (x y : Value) : DM w w1 ((wr.setCell ⟨g + 3, 0, none⟩ x).setCell ⟨g + 3, 1, none⟩ y) g n xa xb vb #[x, y] QL := by
  have := h.hg
  exact ⟨h.b0.far2 (by omega) x y, h.b1.far2 (by omega) x y, h.b2.far2 (by omega) x y, h.b3.far2 (by omega) x y, h.bb.far2 (by omega) x y, Blk.far2 h.bs (by omega) x y, h.bq.far2 (by omega) x y, h.br.set2 x y, h.hg, below_set2 h.lo (by omega) x y, below_set2 h.bw (by omega) x y⟩
theorem DM.setQ (h : DM w w1 wr g n xa xb vb vr QL) (j : Nat) (z : Int) : DM w w1 (wr.setCell ⟨g + 1, j, none⟩ (.int .i64 z)) g n xa xb vb vr (QL.set j z) := by
  have := h.hg
  exact ⟨h.b0.far (by simp; omega) _, h.b1.far (by simp; omega) _, h.b2.far (by simp; omega) _, h.b3.far (by simp; omega) _, h.bb.far (by simp) _, h.bs.set_ j z, h.bq.far (by simp) _, h.br.far (by simp) _, h.hg, h.lo.setCell (by simp; omega) _, h.bw.setCell (by simp) _⟩
theorem DM.drewN (h : DM w w1 wr g n xa xb vb vr QL) (q : Nat) : DM w w1 (wr.drewN q) g n xa xb vb vr QL := ⟨h.b0, h.b1, h.b2, h.b3, h.bb, h.bs, h.bq, h.br, h.hg, below_drewN h.lo q, below_drewN h.bw q⟩
end
theorem Sl.one (k : IntKind) (e : TypeId) (w : World) (z : Int) : Sl k (w.alloc (.cells #[.int k z] e)) (.slice (some ⟨w.heap.size, 0, none⟩) 1 1) [z] := by
  refine ⟨_, 1, rfl, by simp, .inr ⟨_, rfl, by simp, fun j hj => ?_⟩⟩
  obtain rfl : j = 0 := by simpa using hj
  have := Blk.at_ (Blk.new w e #[.int k z]) 0 rfl
  rw [show (⟨w.heap.size, 0, none⟩ : Addr).add 0 = ⟨w.heap.size, 0, none⟩ by unfold Addr.add; simp]
  exact this
theorem ZL.box {w1 : World} {b A n c z} (hv : ZL w1 b A n c z) {B : Nat} {b0 : Bool} {A0 : Option Addr} {n0 c0 : Nat} (h0 : w1.cell? ⟨B, 0, none⟩ = some (.bool b0)) (h1 : w1.cell? ⟨B, 1, none⟩ = some (.slice A0 n0 c0)) (u v : Value) :
    ZL ((w1.setCell ⟨B, 0, none⟩ u).setCell ⟨B, 1, none⟩ v) b A n c z :=
  (hv.setCell h0 (fun z h => by cases h) _).setCell (p := ⟨B, 1, none⟩) (u := .slice A0 n0 c0) (by rw [World.cell?_setCell_other _ _ _ _ (by simp)]; exact h1) (fun z h => by cases h) _
theorem big_add (n m : Nat) : big (n + m) = big n * big m := by unfold big; rw [Nat.pow_add]
theorem big_mono {n m : Nat} (h : n ≤ m) : big n ≤ big m := by unfold big; exact Nat.pow_le_pow_right (by decide) h
theorem big3 : big 3 = 1000000000000 := by unfold big; decide
theorem mul_bnd {b : Nat} {t : Int} (hb : b < big 900000) (h0 : 0 ≤ t) (h1 : t ≤ 100000001) : (t * (b : Int)).natAbs < big 1000000 := by
  have h2 := big_add 900000 3
  have h3 := big_mono (show 900000 + 3 ≤ 1000000 by decide)
  rw [Int.natAbs_mul, Int.natAbs_natCast, big3] at *
  have h4 : t.natAbs * b ≤ 1000000000000 * b := Nat.mul_le_mul_right _ (by omega)
  have h5 : big 900000 * 1000000000000 = 1000000000000 * big 900000 := Nat.mul_comm _ _
  omega
theorem succ_bnd {t : Int} (h0 : 0 ≤ t) (h : t.natAbs < big 900000) : (t + 1).natAbs < big 1000000 := by
  have h1 := big_add 900000 1
  have h2 : big 1 = 10000 := by unfold big; rfl
  have h3 := big_mono (show 900000 + 1 ≤ 1000000 by decide)
  rw [h2] at h1
  omega
theorem size_z {W : World} {bp br : Bool} {Ap Ar : Option Addr} {np cp nr cr : Nat} {p r : Int} (hp : ZL W bp Ap np cp p) (hr : ZL W br Ar nr cr r) (p0 : 0 ≤ p) (r0 : 0 ≤ r) (pb : p.natAbs < big 1000000) (rb : r.natAbs < big 1000000) :
    Calls Tryz.prog 60 #[.slice Ap np cp, .slice Ar nr cr] W (RetQ W (.int .i64 (cmpv p r))) := by
  have l1 := hp.len pb
  have l2 := hr.len rb
  obtain ⟨_, L, hn, hs, hd, hz, hv⟩ := hp
  obtain ⟨_, M, hm, ht, hd', hz', hv'⟩ := hr
  have := size_c _ _ L M W hs ht hd hd' hz hz' (by omega) (by omega)
  rw [hv, hv', show ((p.natAbs : Nat) : Int) = p by omega, show ((r.natAbs : Nat) : Int) = r by omega] at this
  exact this
theorem ZLF.far {w : World} {B : Nat} {b A n c z} (h : ZLF w B b A n c z) {p : Addr} (hp : p.block < B) (u : Value) : ZL (w.setCell p u) b A n c z := by
  refine h.1.keep fun L hs => ?_
  obtain ⟨A', c', e, hc, hs⟩ := hs
  refine ⟨A', c', e, hc, ?_⟩
  rcases hs with rfl | ⟨ad, rfl, hb, hr⟩
  · exact .inl rfl
  · rcases h.2 with h0 | ⟨ad', e', hb'⟩
    · injection e with e1 e2
      exact .inl (List.eq_nil_of_length_eq_zero (by omega))
    · injection e with e1 e2
      rw [e'] at e1
      injection e1 with e1
      subst e1
      refine .inr ⟨_, rfl, by simpa [World.setCell] using hb, fun j hj => ?_⟩
      rw [World.cell?_setCell_far _ _ _ _ (by rw [block_of_add]; omega)]
      exact hr j hj
theorem ZL.zero {w : World} {b A n c z} (h : ZL w b A n c z) : (n = 0 → z = 0) ∧ (0 < n → z ≠ 0) := by
  obtain ⟨_, L, hn, _, hd, hz, hv⟩ := h
  constructor
  · intro h0
    obtain rfl := List.eq_nil_of_length_eq_zero (by omega : L.length = 0)
    simp [val] at hv; omega
  · intro h0
    have := val_pos hd hz (List.length_pos_iff.1 (by omega))
    omega
/-- the memory of a division near its end: the quotient's box holds whatever -/
structure TM (w w1 wr : World) (g : Nat) (xa xb vb vq vr : Array Value) : Prop where
  b0 : Blk wr w.heap.size 39 xa
  b1 : Blk wr (w.heap.size + 1) 39 xb
  b2 : Blk wr (w.heap.size + 2) 39 #[.bool false, .slice none 0 0]
  b3 : Blk wr (w.heap.size + 3) 39 #[.bool false, .slice none 0 0]
  bb : Blk wr g 39 vb
  bq : Blk wr (g + 2) 39 vq
  br : Blk wr (g + 3) 39 vr
  hg : w.heap.size + 4 ≤ g
  lo : Below w.heap.size w wr
  bw : Below g w1 wr
section
variable {w w1 wr w' : World} {g n : Nat} {xa xb vb vq vr : Array Value} {QL : List Int}
theorem TM.of (h : DM w w1 wr g n xa xb vb vr QL) : TM w w1 wr g xa xb vb #[.bool false, .slice (some ⟨g + 1, 0, none⟩) n n] vr := ⟨h.b0, h.b1, h.b2, h.b3, h.bb, h.bq, h.br, h.hg, h.lo, h.bw⟩
theorem TM.sz (h : TM w w1 wr g xa xb vb vq vr) : g + 4 ≤ wr.heap.size := h.br.lt
theorem TM.below (h : TM w w1 wr g xa xb vb vq vr) (hb : Below wr.heap.size wr w') : TM w w1 w' g xa xb vb vq vr :=
  ⟨h.b0.below hb h.b0.lt, h.b1.below hb h.b1.lt, h.b2.below hb h.b2.lt, h.b3.below hb h.b3.lt, h.bb.below hb h.bb.lt, h.bq.below hb h.bq.lt, h.br.below hb h.br.lt, h.hg, h.lo.trans (hb.mono h.lo.size), h.bw.trans (hb.mono (by have := h.sz; omega))⟩
theorem TM.drew (h : TM w w1 wr g xa xb vb vq vr) : TM w w1 wr.drew g xa xb vb vq vr := ⟨h.b0, h.b1, h.b2, h.b3, h.bb, h.bq, h.br, h.hg, h.lo.drew, h.bw.drew⟩
theorem TM.setQ {q0 q1 : Value} (h : TM w w1 wr g xa xb vb #[q0, q1] vr) (x y : Value) : TM w w1 ((wr.setCell ⟨g + 2, 0, none⟩ x).setCell ⟨g + 2, 1, none⟩ y) g xa xb vb #[x, y] vr := by
  have := h.hg
  exact ⟨h.b0.far2 (by omega) x y, h.b1.far2 (by omega) x y, h.b2.far2 (by omega) x y, h.b3.far2 (by omega) x y, h.bb.far2 (by omega) x y, h.bq.set2 x y, h.br.far2 (by omega) x y, h.hg, below_set2 h.lo (by omega) x y, below_set2 h.bw (by omega) x y⟩
theorem TM.setR {r0 r1 : Value} (h : TM w w1 wr g xa xb vb vq #[r0, r1]) (x y : Value) : TM w w1 ((wr.setCell ⟨g + 3, 0, none⟩ x).setCell ⟨g + 3, 1, none⟩ y) g xa xb vb vq #[x, y] := by
  have := h.hg
  exact ⟨h.b0.far2 (by omega) x y, h.b1.far2 (by omega) x y, h.b2.far2 (by omega) x y, h.b3.far2 (by omega) x y, h.bb.far2 (by omega) x y, h.bq.far2 (by omega) x y, h.br.set2 x y, h.hg, below_set2 h.lo (by omega) x y, below_set2 h.bw (by omega) x y⟩
end
theorem field_z (b : Bool) (A : Option Addr) (n c : Nat) (W : World) : (Instr.field 39 (.agg #[.bool b, .slice A n c]) 1).run Tryz.prog W = .ok (.slice A n c) W := by kernel_rfl
def RetZZ (w : World) (q r : Int) (e : Ending) (w' : World) : Prop := ∃ u v, e = .returned (.tuple #[u, v]) ∧ ZV w' u q ∧ ZV w' v r ∧ Below w.heap.size w w'
set_option maxRecDepth 100000 in
set_option maxHeartbeats 8000000 in
theorem ZDiv_c (va vb : Value) (a b : Int) (w : World) (ha : ZV w va a) (hb : ZV w vb b) (bA : a.natAbs < big 900000) (bB : b.natAbs < big 900000) (h0 : b ≠ 0) :
    Calls Tryz.prog 56 #[va, vb] w (RetZZ w (a / b) (a % b)) := by
  obtain ⟨x, A, n, c, rfl, ha⟩ := ha
  obtain ⟨y, B, m, d, rfl, hb⟩ := hb
  have lA := ha.len bA
  have lB := hb.len bB
  have ABS := Lib.hid (fun W (h : Below w.heap.size w W) => ZAbs_c _ b W (hb.below h).v)
  have hmk := run_make_row' (P := Tryz.prog) 37 3 (.int .i64 0) 8 Tryz.underlying37 (by kernel_rfl) rfl .i64 .i64 n (by omega) (by omega)
  have BBB := Lib.hid bB
  have BAA := Lib.hid bA
  have HYB := Lib.hid hb.1
  clear bA bB
  obtain ⟨N0, N1, N2, N3, N4⟩ := new3 w 39 39 39 #[.bool x, .slice A n c] #[.bool y, .slice B m d] #[.bool false, .slice none 0 0] 0
  have N0 := Lib.hid (N0.alloc (.cells #[.bool false, .slice none 0 0] 39))
  have N1 := Lib.hid (N1.alloc (.cells #[.bool false, .slice none 0 0] 39))
  have N2 := Lib.hid (N2.alloc (.cells #[.bool false, .slice none 0 0] 39))
  have N5 := Lib.hid (Blk.new' ((((w.alloc (.cells #[.bool x, .slice A n c] 39)).alloc (.cells #[.bool y, .slice B m d] 39)).alloc (.cells #[.bool false, .slice none 0 0] 39)).drewN 0) 39 #[.bool false, .slice none 0 0] (g := w.heap.size + 3) N3)
  have N4 := Lib.hid (N4.alloc (by rw [N3]; omega) (.cells #[.bool false, .slice none 0 0] 39))
  clear N3
  go_enter Tryz.func56, Tryz.ntmps56
  go_upto_region 3 with (first | (go_at_call 35; (with_reducible refine (ABS.out _ ?_).mono ?_); exact (below3 w _ _ _).alloc (by simp; omega) _; rintro e w1 ⟨_, rfl, ⟨b1, A1, n1, c1, rfl, hv1⟩, hb1⟩ ; have M0 := Blk.after hb1 N0.out rfl (by simp <;> omega); have M1 := Blk.after hb1 N1.out rfl (by simp <;> omega); have M2 := Blk.after hb1 N2.out rfl (by simp <;> omega); have M3 := Blk.after hb1 N5.out rfl (by simp); have q01 := M0.at_ 1 rfl; have lq := M0.lt))
  have ln1 : n1 ≤ 900000 := hv1.len (by simpa using BBB.out)
  obtain ⟨hbn, Y, hn1, hsl, dY, zY, vY⟩ := hv1
  obtain rfl : b1 = false := by rw [hbn, decide_eq_false_iff_not]; omega
  have hY : Y ≠ [] := by rintro rfl; simp [val] at vY; omega
  have h1 : 1 ≤ n1 := by rw [hn1]; exact List.length_pos_iff.2 hY
  have HY := Lib.hid hn1
  have DY := Lib.hid dY
  have HV := Lib.hid vY
  obtain ⟨adb, cb, e, _, _, _⟩ := hsl.at_ (n1 - 1) (by omega)
  injection e with e1 e2 e3
  subst e1
  clear e2 e3
  have HSL := Lib.hid hsl
  have HYY := Lib.hid (And.intro hY zY)
  have D0 : DM w w1 ((((w1.alloc (.cells #[.bool false, .slice (some adb) n1 c1] 39)).alloc (.cells (madeCells #[.int .i64 0] n) 3)).alloc (.cells #[.bool false, .slice (some ⟨w1.heap.size + 1, 0, none⟩) n n] 39)).alloc (.cells #[.bool false, .slice none 0 0] 39)) w1.heap.size n #[.bool x, .slice A n c] #[.bool y, .slice B m d] #[.bool false, .slice (some adb) n1 c1] #[.bool false, .slice none 0 0] (List.replicate n 0) :=
    ⟨(((M0.alloc _).alloc _).alloc _).alloc _, (((M1.alloc _).alloc _).alloc _).alloc _, (((M2.alloc _).alloc _).alloc _).alloc _, (((M3.alloc _).alloc _).alloc _).alloc _, (((Blk.new _ _ _).alloc _).alloc _).alloc _,
      Row.alloc (Row.alloc (Row.new' _ _ _ _ (by simp)) _) _, Blk.alloc (Blk.new' _ _ _ (by simp)) _, Blk.new' _ _ _ (by simp), by have := M3.lt; omega,
      ((N4.out.trans (hb1.mono N4.out.size)).trans (((below3 w1 _ _ _).alloc (by simp; omega) _).mono (N4.out.trans (hb1.mono N4.out.size)).size)), (below3 w1 _ _ _).alloc (by simp; omega) _⟩
  have G3 : ∃ g, g = w1.heap.size := ⟨_, rfl⟩
  obtain ⟨g, hg⟩ := G3
  have hgg : w.heap.size + 4 ≤ g := by rw [hg]; exact D0.hg
  have ABX : ∀ wr, Below g w1 wr → ∀ j, j < n1 → wr.cell? (adb.add j) = some (.int .i64 (Y.getD j 0)) := by
    intro wr hb j hj
    obtain ⟨ad', c', e', _, hbl, hc'⟩ := HSL.out.at_ j (by rw [← HY.out]; exact hj)
    injection e' with e1'
    injection e1' with e1'
    subst e1'
    rw [hb.cell (by rw [block_of_add, hg]; exact hbl)]
    exact hc'
  have ABX := Lib.hid ABX
  have HG := Lib.hid hg
  have D0' := Lib.hid D0
  have HA := Lib.hid ha
  clear D0 hg hbn hn1 dY zY vY hsl hY M0 M1 M2 M3 N0 N1 N2 N4 N5 hmk hb ha q01 lq hb1 ABS
  go_cut [6, 7, 8, 9] (fun s6 s7 s8 s9 wx => s6 = .pointer (some ⟨g, 0, none⟩) ∧ s7 = .pointer (some ⟨g + 2, 0, none⟩) ∧ s8 = .pointer (some ⟨g + 3, 0, none⟩) ∧ s9 = .int .i64 n1 ∧ DM w w1 wx g n #[.bool x, .slice A n c] #[.bool y, .slice B m d] #[.bool false, .slice (some adb) n1 c1] #[.bool false, .slice none 0 0] (List.replicate n 0))
  case first =>
    go_wp2
    go_meet
    obtain rfl := HG.out
    exact ⟨rfl, rfl, rfl, rfl, D0'.out⟩
  case rest =>
    obtain ⟨rfl, rfl, rfl, rfl, hD⟩ := hcut
    have pb1 := hD.bb.at_ 1 rfl
    have ct := ABX.out wc hD.bw (n1 - 1) (by omega)
    have htop := getD_dig DY.out (n1 - 1)
    have htop1 : Y.getD (n1 - 1) 0 ≠ 0 := by
      have := HYY.out.2 HYY.out.1
      rw [List.getLast_eq_getElem] at this
      have e := HY.out
      rw [List.getD_eq_getElem?_getD, List.getElem?_eq_getElem (by omega)]
      simpa [e] using this
    obtain ⟨t1, ht1⟩ : ∃ t, t = Y.getD (n1 - 1) 0 := ⟨_, rfl⟩
    rw [← ht1] at ct htop htop1
    clear ht1
    have h2 : 0 < t1 := by omega
    go_upto_if 35 with fail
    go_cut [10] (fun s10 wx => ∃ hv : Int, s10 = .int .i64 hv ∧ 10000 ≤ hv ∧ hv ≤ 100000000 ∧ DM w w1 wx g n #[.bool x, .slice A n c] #[.bool y, .slice B m d] #[.bool false, .slice (some adb) n1 c1] #[.bool false, .slice none 0 0] (List.replicate n 0))
    case first =>
      have HD := Lib.hid hD
      clear hD
      by_cases hn2 : 1 < n1
      · have ct2 := ABX.out wc HD.out.bw (n1 - 2) (by omega)
        have ht2 := getD_dig DY.out (n1 - 2)
        obtain ⟨t2, e2⟩ : ∃ t, t = Y.getD (n1 - 2) 0 := ⟨_, rfl⟩
        rw [← e2] at ct2 ht2
        clear e2
        go_wp2
        go_meet
        exact ⟨_, rfl, by omega, by omega, HD.out⟩
      · go_wp2
        go_meet
        exact ⟨_, rfl, by omega, by omega, HD.out⟩
    case rest =>
      obtain ⟨hv, rfl, hv1, hv2, hD⟩ := hcut
      have HBND := Lib.hid (fun t (h0 : 0 ≤ t) (h1 : t ≤ 100000001) => mul_bnd (t := t) BBB.out h0 h1)
      obtain ⟨hx, X, hn, hs, dX, zX, vX⟩ := HA.out
      have HN := Lib.hid hn
      have HS := Lib.hid hs
      have DX := Lib.hid dX
      have HX := Lib.hid (And.intro hx vX)
      have ABZ : ∀ wr, Below g w1 wr → ZL wr false (some adb) n1 c1 ((b.natAbs : Int)) := fun wr hb => ZL.of (by simp) HY.out (HSL.out.below (by rw [← HG.out]; exact hb)) DY.out HYY.out.2 HV.out
      have ABZ := Lib.hid ABZ
      obtain ⟨Bv, eBv⟩ : ∃ Bv : Int, Bv = (b.natAbs : Int) := ⟨_, rfl⟩
      have hBv : 0 < Bv := by omega
      rw [← eBv] at ABZ HBND
      have EBV := Lib.hid eBv
      have HI0 := Lib.hid (show DivI X Bv n n (List.replicate n 0) 0 by rw [hn]; exact DivI.start X Bv hBv)
      clear eBv hx hn hs dX zX vX
      have p01 := hD.b0.at_ 1 rfl
      go_wp2
      clear p01
      go_loopw [11] (fun s11 wr => ∃ (k : Nat) (QL : List Int) (R : Int) (br : Bool) (Ar : Option Addr) (nr cr : Nat), s11 = .int .i64 ((k : Int) - 1) ∧ k ≤ n ∧ Hid (DivI X Bv n k QL R) ∧ DM w w1 wr g n #[.bool x, .slice A n c] #[.bool y, .slice B m d] #[.bool false, .slice (some adb) n1 c1] #[.bool br, .slice Ar nr cr] QL ∧ ZLF wr (g + 4) br Ar nr cr R) (fun s11 _ => (intOf s11 + 1).toNat)
      case atStart => exact ⟨n, _, _, _, _, _, _, rfl, Nat.le_refl _, HI0, hD, ZL.nil _ _ _, .inl rfl⟩
      case round =>
        obtain ⟨k1, QL, R, br, Ar, nr, cr, rfl, hk, hI, hD, hR⟩ := hrel
        by_cases hk0 : 0 < k1
        · obtain ⟨k, rfl⟩ : ∃ k, k1 = k + 1 := ⟨k1 - 1, by omega⟩
          clear hk0
          have hkn : k < n := by omega
          rw [show (((k + 1 : Nat) : Int) - 1) = (k : Int) by omega]
          go_upto_region 10 with fail
          go_cut [11] (fun s11 wx => s11 = .int .i64 k ∧ ∃ (br : Bool) (Ar : Option Addr) (nr cr : Nat), DM w w1 wx g n #[.bool x, .slice A n c] #[.bool y, .slice B m d] #[.bool false, .slice (some adb) n1 c1] #[.bool br, .slice Ar nr cr] QL ∧ ZLF wx (g + 4) br Ar nr cr (X.getD k 0 + 10000 * R))
          case first =>
            obtain ⟨adx, cx, ex, _, hbx, _⟩ := HS.out.at_ k (by rw [← HN.out]; omega)
            injection ex with ex1 ex2 ex3
            subst ex1
            clear ex2 ex3
            obtain ⟨xk, hxk⟩ : ∃ xk, X.getD k 0 = xk := ⟨_, rfl⟩
            have bxk := getD_dig DX.out k
            rw [hxk] at bxk
            have HXC : ∀ wr, Below w.heap.size w wr → wr.cell? (adx.add k) = some (.int .i64 xk) := by
              intro wr hb
              obtain ⟨ad', c', e', _, hbl, hc'⟩ := HS.out.at_ k (by rw [← HN.out]; omega)
              injection e' with e1'
              injection e1' with e1'
              subst e1'
              rw [hb.cell (by rw [block_of_add]; exact hbl), ← hxk]
              exact hc'
            have HXC := Lib.hid HXC
            have EXK := Lib.hid hxk
            have hR0 := hI.out.r0
            have hR1 := hI.out.r1
            obtain ⟨_, Rl, hnr, hsr, dR, zR, vR⟩ := hR.1
            have hlr : nr ≤ 1000000 := hR.1.len (by have := HBND.out 1 (by omega) (by omega); rw [Int.one_mul] at this; omega)
            have HSR := Lib.hid hsr
            have HNR := Lib.hid hnr
            have TRIM := Lib.hid (fun A' n' c' W (h : Sl .i64 W (.slice A' n' c') ([xk] ++ Rl)) => trim_c false A' n' c' ([xk] ++ Rl) W h (by intro d hd; rcases List.mem_cons.1 hd with rfl | hd; exact bxk; exact dR d hd) (by simp; omega))
            have hvr : sg false (val ([xk] ++ Rl)) = xk + 10000 * R := by simp only [List.singleton_append, val, sg]; rw [vR, show ((R.natAbs : Nat) : Int) = R by omega]; simp
            rw [hvr] at TRIM
            have FR := Lib.hid hR.2
            clear hR dR zR vR hvr hsr hnr hxk
            have k2 : (0 : Int) ≤ (k : Int) := by omega
            have k3 : (k : Int) < (n : Int) := by omega
            have hD0 := Lib.hid hD
            clear hD
            have hsz := hD0.out.sz
            (refine wp_region_L (S := fun w' => w'.cell? ⟨w.heap.size, 1, none⟩ = some (.slice (some adx) n c) ∧ w'.cell? (adx.add k) = some (.int .i64 xk) ∧ w'.cell? ⟨g + 3, 1, none⟩ = some (.slice Ar nr cr)) (nl := 11) (by kernel_rfl) ?_ (fun hHeld => ?_); focus (exact ⟨hD0.out.drew.b0.at_ 1 rfl, HXC.out _ hD0.out.drew.lo, hD0.out.drew.br.at_ 1 rfl⟩))
            (refine wpAnyL_take (i := 0) (oi := _) (v := ?_) rfl (by kernel_rfl) (by kernel_rfl) (by kernel_rfl) (fun _ _ _ h => h) (Or.inl ⟨by first | rfl | kernel_rfl, ?hy1⟩) (by assumption) ?rs1; (case hy1 => (intro w hSw; (try dsimp only at hSw); go_simp; first | done | with_reducible rfl)); case' rs1 => (simp only [List.getElem_toArray, List.getElem_cons_zero, List.getElem_cons_succ, Act.put, List.setIfInBounds_toArray, List.set_cons_zero, List.set_cons_succ])); (refine wpAnyL_take (i := 1) (oi := _) (v := ?_) rfl (by kernel_rfl) (by kernel_rfl) (by kernel_rfl) (fun _ _ _ h => h) (Or.inl ⟨by first | rfl | kernel_rfl, ?hy2⟩) (by assumption) ?rs2; (case hy2 => (intro w hSw; (try dsimp only at hSw); go_simp; first | done | with_reducible rfl)); case' rs2 => (simp only [List.getElem_toArray, List.getElem_cons_zero, List.getElem_cons_succ, Act.put, List.setIfInBounds_toArray, List.set_cons_zero, List.set_cons_succ])); (refine wpAnyL_take (i := 2) (oi := _) (v := ?_) rfl (by kernel_rfl) (by kernel_rfl) (by kernel_rfl) (fun _ _ _ h => h) (Or.inl ⟨by first | rfl | kernel_rfl, ?hy3⟩) (by assumption) ?rs3; (case hy3 => (intro w hSw; (try dsimp only at hSw); go_simp; first | done | with_reducible rfl)); case' rs3 => (simp only [List.getElem_toArray, List.getElem_cons_zero, List.getElem_cons_succ, Act.put, List.setIfInBounds_toArray, List.set_cons_zero, List.set_cons_succ])); (refine wpAnyL_take (i := 3) (oi := _) (v := ?_) rfl (by kernel_rfl) (by kernel_rfl) (by kernel_rfl) (fun _ _ _ h => h) (Or.inl ⟨by first | rfl | kernel_rfl, ?hy4⟩) (by assumption) ?rs4; (case hy4 => (intro w hSw; (try dsimp only at hSw); go_simp; first | done | with_reducible rfl)); case' rs4 => (simp only [List.getElem_toArray, List.getElem_cons_zero, List.getElem_cons_succ, Act.put, List.setIfInBounds_toArray, List.set_cons_zero, List.set_cons_succ])); (refine wpAnyL_take (i := 4) (oi := _) (v := ?_) rfl (by kernel_rfl) (by kernel_rfl) (by kernel_rfl) (fun _ _ _ h => h) (Or.inl ⟨by first | rfl | kernel_rfl, ?hy5⟩) (by assumption) ?rs5; (case hy5 => (intro w hSw; (try dsimp only at hSw); go_simp; first | done | with_reducible rfl)); case' rs5 => (simp only [List.getElem_toArray, List.getElem_cons_zero, List.getElem_cons_succ, Act.put, List.setIfInBounds_toArray, List.set_cons_zero, List.set_cons_succ])); (refine wpAnyL_take (i := 6) (oi := _) (v := ?_) rfl (by kernel_rfl) (by kernel_rfl) (by kernel_rfl) (fun _ _ _ h => h) (Or.inl ⟨by first | rfl | kernel_rfl, ?hy6⟩) (by assumption) ?rs6; (case hy6 => (intro w hSw; (try dsimp only at hSw); go_simp; first | done | with_reducible rfl)); case' rs6 => (simp only [List.getElem_toArray, List.getElem_cons_zero, List.getElem_cons_succ, Act.put, List.setIfInBounds_toArray, List.set_cons_zero, List.set_cons_succ])); (refine wpAnyL_take (i := 7) (oi := _) (v := ?_) rfl (by kernel_rfl) (by kernel_rfl) (by kernel_rfl) (fun _ _ _ h => h) (Or.inl ⟨by first | rfl | kernel_rfl, ?hy7⟩) (by assumption) ?rs7; (case hy7 => (intro w hSw; (try dsimp only at hSw); go_simp; first | done | with_reducible rfl)); case' rs7 => (simp only [List.getElem_toArray, List.getElem_cons_zero, List.getElem_cons_succ, Act.put, List.setIfInBounds_toArray, List.set_cons_zero, List.set_cons_succ])); skip
            (refine wpAnyL_one (i := 5) (o := _) (by kernel_rfl) rfl (fun K hK => ?_); clear hHeld; simp only [List.getElem_toArray, List.getElem_cons_zero, List.getElem_cons_succ]; go_simp; refine hK.out _ _ ?_ (fun hHeld => ?_); focus (intro _; exact ⟨(hD0.out.alloc _).drew.b0.at_ 1 rfl, HXC.out _ (hD0.out.alloc _).drew.lo, (hD0.out.alloc _).drew.br.at_ 1 rfl⟩)); have hHeld := hHeld (by decide); clear hK K; (try simp only [Act.put, List.setIfInBounds_toArray, List.set_cons_zero, List.set_cons_succ])
            have hD1 := Lib.hid (hD0.out.alloc (.cells #[.int .i64 xk] 3)).drew
            have hs1 := Lib.hid (HSR.out.alloc (.cells #[.int .i64 xk] 3)).drew
            (refine wpAnyL_one (i := 8) (o := _) (by kernel_rfl) rfl (fun K hK => ?_); clear hHeld; simp only [List.getElem_toArray, List.getElem_cons_zero, List.getElem_cons_succ]; rw [if_pos (by rfl)]; refine wp_app_list el_int (by rfl) _ _ (by rfl) _ 1 1 [xk] (by rfl) (Sl.one _ _ _ _).drew Ar nr cr Rl (by rfl) hs1.out (by intro h; have := List.length_pos_iff.2 h; have := HNR.out; omega) (by have := HNR.out; (try simp); omega) ?_; intro A2 n2 c2 w2 hn2 hS2 hb2 hA2; have hD2 := hD1.out.below hb2; refine hK.out _ _ ?_ (fun hHeld => ?_); focus (intro _; exact ⟨hD2.b0.at_ 1 rfl, HXC.out _ hD2.lo, hD2.br.at_ 1 rfl⟩)); have hHeld := hHeld (by decide); clear hK K; (try simp only [Act.put, List.setIfInBounds_toArray, List.set_cons_zero, List.set_cons_succ])
            have hD2' := Lib.hid hD2
            have hA2' := Lib.hid hA2
            have hS2' := Lib.hid hS2
            have hn2' := Lib.hid hn2
            clear hD2 hA2 hS2 hn2 hb2
            (refine wpAnyL_take (i := 9) (oi := _) (v := ?_) rfl (by kernel_rfl) (by kernel_rfl) (by kernel_rfl) (fun _ _ _ h => h) (Or.inl ⟨by first | rfl | kernel_rfl, ?hy8⟩) (by assumption) ?rs8; (case hy8 => (intro w hSw; (try dsimp only at hSw); go_simp; first | done | with_reducible rfl)); case' rs8 => (simp only [List.getElem_toArray, List.getElem_cons_zero, List.getElem_cons_succ, Act.put, List.setIfInBounds_toArray, List.set_cons_zero, List.set_cons_succ])); skip
            (refine wpAnyL_one (i := 10) (o := _) (by kernel_rfl) rfl (fun K hK => ?_); clear hHeld; simp only [List.getElem_toArray, List.getElem_cons_zero, List.getElem_cons_succ]; go_simp; (go_at_call 76; (with_reducible refine (TRIM.out _ _ _ _ hS2'.out).mono ?_); rintro e w3 ⟨b3, m3, rfl, hm3, hv3, hb3⟩; have hD3 := hD2'.out.below hb3; clear hb3); refine hK.out _ _ ?_ (fun hHeld => ?_); focus (intro _; exact ⟨hD3.b0.at_ 1 rfl, HXC.out _ hD3.lo, hD3.br.at_ 1 rfl⟩)); have hHeld := hHeld (by decide); clear hK K; (try simp only [Act.put, List.setIfInBounds_toArray, List.set_cons_zero, List.set_cons_succ])
            have t0 := hD3.br.at_ 0 rfl
            have t1 := hD3.br.at_ 1 rfl
            have f0 := hD3.br.frozen 0
            have f1 := hD3.br.frozen 1
            have hD3' := Lib.hid hD3
            clear hD3
            (refine wpAnyL_one (i := 11) (o := _) (by kernel_rfl) rfl (fun K hK => ?_); clear hHeld; simp only [List.getElem_toArray, List.getElem_cons_zero, List.getElem_cons_succ]; go_simp; refine hK.out _ _ ?_ (fun hHeld => ?_); focus (intro h; exact absurd h (by decide))); clear hK K; (try simp only [Act.put, List.setIfInBounds_toArray, List.set_cons_zero, List.set_cons_succ])
            refine wpAnyL_done (by kernel_rfl) ?_ _
            go_wp2
            go_meet
            refine ⟨rfl, _, _, _, _, hD3'.out.setR _ _, ?_, ?_⟩
            · rw [EXK.out]; exact ZL.box hv3 t0 t1 _ _
            · rcases hA2'.out with rfl | ⟨g', rfl, hg'⟩
              · exact .inr ⟨_, rfl, hsz⟩
              · exact .inr ⟨_, rfl, by simp at hg'; show g + 4 ≤ g'; omega⟩
          case rest =>
            obtain ⟨rfl, br, Ar, nr, cr, hD, hR⟩ := hcut
            obtain ⟨R1, eR1⟩ : ∃ R1 : Int, R1 = X.getD k 0 + 10000 * R := ⟨_, rfl⟩
            rw [← eR1] at hR
            have hR10 : 0 ≤ R1 := by have := getD_dig DX.out k; have := hI.out.r0; omega
            have hR11 : R1 < 10000 * Bv := by have := getD_dig DX.out k; have := hI.out.r1; omega
            have HR1 := Lib.hid eR1
            clear eR1
            have hlr : nr ≤ 1000000 := hR.1.len (by have := HBND.out 10000 (by omega) (by omega); omega)
            --L2
            go_wp2
            obtain ⟨hbr0, Rl, hnr, hsr, dR, zR, vR⟩ := hR.1
            clear hbr0
            have HSR := Lib.hid hsr
            have HNR := Lib.hid hnr
            have DR := Lib.hid dR
            have hD' := Lib.hid hD
            have hR' := Lib.hid hR
            have hI' := Lib.hid hI
            have p31 := hD.br.at_ 1 rfl
            clear hsr hnr dR zR vR hD hR
            go_loop [12, 13] (fun s12 s13 => ∃ (j : Nat) (tp : Int), s13 = .int .i64 ((n1 : Int) - j) ∧ s12 = .int .i64 tp ∧ j ≤ 3 ∧ 0 ≤ tp ∧ Hid (tp < 10000 ^ j)) (fun s12 s13 => (intOf s13 - n1 + 3).toNat)
            case atStart => exact ⟨0, 0, by simp, rfl, by omega, by omega, by show (0 : Int) < 10000 ^ 0; decide⟩
            case round =>
              obtain ⟨j, tp, rfl, rfl, hj, htp0, htp1⟩ := hrel
              by_cases hj3 : j < 3
              · obtain ⟨PW, ePW⟩ : ∃ PW : Int, PW = 10000 ^ j := ⟨_, rfl⟩
                have hP : PW ≤ 100000000 := by rw [ePW]; exact pow_mono (show j ≤ 2 by omega)
                have htp2 : tp < PW := by rw [ePW]; exact htp1.out
                have EP := Lib.hid (show (10000 : Int) ^ (j + 1) = PW * 10000 by rw [Int.pow_succ, ← ePW])
                clear ePW htp1
                by_cases hi : (j : Int) ≤ n1
                · by_cases hl : (n1 : Int) - j < nr
                  · obtain ⟨adr, cr', er, _, _, hcr⟩ := HSR.out.at_ (n1 - j) (by rw [← HNR.out]; omega)
                    injection er with er1 er2 er3
                    subst er1
                    have bdr := getD_dig DR.out (n1 - j)
                    obtain ⟨dr, edr⟩ : ∃ z, Rl.getD (n1 - j) 0 = z := ⟨_, rfl⟩
                    rw [edr] at hcr bdr
                    have i1 : ((n1 : Int) - (j : Int)).toNat = n1 - j := by omega
                    have i2 : (0 : Int) ≤ (n1 : Int) - (j : Int) := by omega
                    clear er2 er3 edr
                    go_wp2
                    exact ⟨⟨j + 1, _, by congr 1; omega, rfl, by omega, by omega, by show _ < (10000 : Int) ^ (j + 1); rw [EP.out]; omega⟩, by simp only [intOf]; omega⟩
                  · go_wp2
                    exact ⟨⟨j + 1, _, by congr 1; omega, rfl, by omega, by omega, by show _ < (10000 : Int) ^ (j + 1); rw [EP.out]; omega⟩, by simp only [intOf]; omega⟩
                · go_wp2
                  exact ⟨⟨j + 1, _, by congr 1; omega, rfl, by omega, by omega, by show _ < (10000 : Int) ^ (j + 1); rw [EP.out]; omega⟩, by simp only [intOf]; omega⟩
              · obtain rfl : j = 3 := by omega
                have htp2 : tp < 1000000000000 := htp1.out
                clear htp1 p31
                have q0 : 0 ≤ tp / hv := Int.ediv_nonneg htp0 (by omega)
                have q1 : tp / hv ≤ 100000000 := by
                  have a := Int.ediv_mul_le tp (show hv ≠ 0 by omega)
                  rcases Int.lt_or_le 100000000 (tp / hv) with h | h
                  · exfalso
                    have := Int.mul_le_mul (show (100000001 : Int) ≤ tp / hv by omega) (show (10000 : Int) ≤ hv by omega) (by omega) (by omega)
                    omega
                  · exact h
                --L3
                go_upto_region 19 with fail
                generalize tp / hv = mv at q0 q1 ⊢
                clear htp0 htp2 hj hj3
                go_cut [14, 15] (fun s14 s15 wx => ∃ (mv : Int) (gp : Nat) (bp : Bool) (Ap : Option Addr) (np cp : Nat), s14 = .int .i64 mv ∧ s15 = .pointer (some ⟨gp, 0, none⟩) ∧ g + 4 ≤ gp ∧ 0 ≤ mv ∧ mv ≤ 100000000 ∧
                  DM w w1 wx g n #[.bool x, .slice A n c] #[.bool y, .slice B m d] #[.bool false, .slice (some adb) n1 c1] #[.bool br, .slice Ar nr cr] QL ∧ ZLF wx (g + 4) br Ar nr cr R1 ∧
                  Blk wx gp 39 #[.bool bp, .slice Ap np cp] ∧ ZLF wx (g + 4) bp Ap np cp (mv * Bv))
                case first =>
                  have NC := Lib.hid (fun W => N_c mv (by omega) (by omega) W)
                  have MC : ∀ W vb, Below g w1 W → ZV W vb mv → Calls Tryz.prog 54 #[.agg #[.bool false, .slice (some adb) n1 c1], vb] W (RetZ W (mv * Bv)) := by
                    intro W vb h1 h2
                    rw [Int.mul_comm]
                    exact ZMul_c _ vb Bv mv W (ABZ.out W h1).v h2 (by have := HBND.out 1 (by omega) (by omega); rwa [Int.one_mul] at this) (by have a := big_mono (show 3 ≤ 1000000 by decide); rw [big3] at a; omega)
                  have MC := Lib.hid MC
                  have hsz := hD'.out.sz
                  (refine wp_region_L (S := fun w' => w'.cell? ⟨g, 0, none⟩ = some (.bool false) ∧ w'.cell? ⟨g, 1, none⟩ = some (.slice (some adb) n1 c1)) (nl := 5) (by kernel_rfl) ?_ (fun hHeld => ?_); focus (exact ⟨hD'.out.drew.bb.at_ 0 rfl, hD'.out.drew.bb.at_ 1 rfl⟩))
                  (refine wpAnyL_take (i := 0) (oi := _) (v := ?_) rfl (by kernel_rfl) (by kernel_rfl) (by kernel_rfl) (fun _ _ _ h => h) (Or.inl ⟨by first | rfl | kernel_rfl, ?hy9⟩) (by assumption) ?rs9; (case hy9 => (intro w hSw; (try dsimp only at hSw); go_simp; first | done | with_reducible rfl)); case' rs9 => (simp only [List.getElem_toArray, List.getElem_cons_zero, List.getElem_cons_succ, Act.put, List.setIfInBounds_toArray, List.set_cons_zero, List.set_cons_succ])); (refine wpAnyL_take (i := 1) (oi := _) (v := ?_) rfl (by kernel_rfl) (by kernel_rfl) (by kernel_rfl) (fun _ _ _ h => h) (Or.inl ⟨by first | rfl | kernel_rfl, ?hy10⟩) (by assumption) ?rs10; (case hy10 => (intro w hSw; (try dsimp only at hSw); go_simp; first | done | with_reducible rfl)); case' rs10 => (simp only [List.getElem_toArray, List.getElem_cons_zero, List.getElem_cons_succ, Act.put, List.setIfInBounds_toArray, List.set_cons_zero, List.set_cons_succ])); skip
                  refine wpAnyL_two (i := 2) (j := 4) (oi := _) (oj := _) (by kernel_rfl) rfl rfl (fun K hK => ?_) (fun K hK => ?_)
                  · (clear hHeld; simp only [List.getElem_toArray, List.getElem_cons_zero, List.getElem_cons_succ]; go_simp; (go_at_call 28; (with_reducible refine (NC.out _).mono ?_); rintro e w2 ⟨_, rfl, ⟨b2, A2, n2, c2, rfl, hv2⟩, hb2⟩; have D2 := hD'.out.drew.below hb2; have R2 := hR'.out.zl.drew.below hb2; have z2 := hb2.size); refine hK.out _ _ ?_ (fun hHeld => ?_); focus (intro _; exact ⟨D2.bb.at_ 0 rfl, D2.bb.at_ 1 rfl⟩)); have hHeld := hHeld (by decide); clear hK K; (try simp only [Act.put, List.setIfInBounds_toArray, List.set_cons_zero, List.set_cons_succ])
                    have s2 := D2.sz
                    refine wpAnyL_two (i := 3) (j := 4) (oi := _) (oj := _) (by kernel_rfl) rfl rfl (fun K hK => ?_) (fun K hK => ?_)
                    · (clear hHeld; simp only [List.getElem_toArray, List.getElem_cons_zero, List.getElem_cons_succ]; go_simp; (go_at_call 54; (with_reducible refine (MC.out _ _ D2.bw hv2.v).mono ?_); rintro e w3 ⟨_, rfl, ⟨b3, A3, n3, c3, rfl, hv3⟩, hb3⟩; have D3 := D2.below hb3; have R3 := R2.below hb3; have z3 := hb3.size); refine hK.out _ _ ?_ (fun hHeld => ?_); focus (intro _; exact ⟨D3.bb.at_ 0 rfl, D3.bb.at_ 1 rfl⟩)); have hHeld := hHeld (by decide); clear hK K; (try simp only [Act.put, List.setIfInBounds_toArray, List.set_cons_zero, List.set_cons_succ])
                      have s3 := D3.sz
                      (refine wpAnyL_one (i := 4) (o := _) (by kernel_rfl) rfl (fun K hK => ?_); clear hHeld; simp only [List.getElem_toArray, List.getElem_cons_zero, List.getElem_cons_succ]; go_simp; refine hK.out _ _ ?_ (fun hHeld => ?_); focus (intro _; exact ⟨(D3.alloc _).bb.at_ 0 rfl, (D3.alloc _).bb.at_ 1 rfl⟩)); have hHeld := hHeld (by decide); clear hK K; (try simp only [Act.put, List.setIfInBounds_toArray, List.set_cons_zero, List.set_cons_succ])
                      clear hHeld
                      have D3' := Lib.hid D3
                      clear D3 D2
                      (refine wpAnyL_one (i := 5) (o := _) (by kernel_rfl) rfl (fun K hK => ?_); clear hHeld; simp only [List.getElem_toArray, List.getElem_cons_zero, List.getElem_cons_succ]; go_simp; refine hK.out _ _ ?_ (fun hHeld => ?_); focus (intro h; exact absurd h (by decide))); clear hK K; (try simp only [Act.put, List.setIfInBounds_toArray, List.set_cons_zero, List.set_cons_succ])
                      refine wpAnyL_done (by kernel_rfl) ?_ _
                      go_wp2
                      go_meet
                      exact ⟨mv, _, b3, A3, n3, c3, rfl, rfl, s3, q0, q1, D3'.out.alloc _, ⟨R3.alloc _, hR'.out.fr⟩, Blk.new _ _ _, ⟨hv3.zl.alloc _, hv3.fr.mono (by omega)⟩⟩
                    · (clear hHeld; simp only [List.getElem_toArray, List.getElem_cons_zero, List.getElem_cons_succ]; go_simp; refine hK.out _ _ ?_ (fun hHeld => ?_); focus (intro _; exact ⟨(D2.alloc _).bb.at_ 0 rfl, (D2.alloc _).bb.at_ 1 rfl⟩)); have hHeld := hHeld (by decide); clear hK K; (try simp only [Act.put, List.setIfInBounds_toArray, List.set_cons_zero, List.set_cons_succ])
                      (refine wpAnyL_one (i := 3) (o := _) (by kernel_rfl) rfl (fun K hK => ?_); clear hHeld; simp only [List.getElem_toArray, List.getElem_cons_zero, List.getElem_cons_succ]; go_simp; (go_at_call 54; (with_reducible refine (MC.out _ _ (D2.alloc _).bw (hv2.zl.alloc _).v).mono ?_); rintro e w3 ⟨_, rfl, ⟨b3, A3, n3, c3, rfl, hv3⟩, hb3⟩; have D3 := (D2.alloc _).below hb3; have R3 := (R2.alloc _).below hb3; have z3 := hb3.size; have B3 := Blk.after hb3 (Blk.new w2 39 #[.bool false, .slice none 0 0]) rfl (by simp)); refine hK.out _ _ ?_ (fun hHeld => ?_); focus (intro _; exact ⟨D3.bb.at_ 0 rfl, D3.bb.at_ 1 rfl⟩)); have hHeld := hHeld (by decide); clear hK K; (try simp only [Act.put, List.setIfInBounds_toArray, List.set_cons_zero, List.set_cons_succ])
                      have t0 := B3.at_ 0 rfl
                      have t1 := B3.at_ 1 rfl
                      have f0 := B3.frozen 0
                      have f1 := B3.frozen 1
                      have B3' := Lib.hid B3
                      have D3' := Lib.hid D3
                      clear D3 D2 B3 hb3
                      clear hHeld
                      (refine wpAnyL_one (i := 5) (o := _) (by kernel_rfl) rfl (fun K hK => ?_); clear hHeld; simp only [List.getElem_toArray, List.getElem_cons_zero, List.getElem_cons_succ]; go_simp; refine hK.out _ _ ?_ (fun hHeld => ?_); focus (intro h; exact absurd h (by decide))); clear hK K; (try simp only [Act.put, List.setIfInBounds_toArray, List.set_cons_zero, List.set_cons_succ])
                      refine wpAnyL_done (by kernel_rfl) ?_ _
                      go_wp2
                      go_meet
                      exact ⟨mv, _, b3, A3, n3, c3, rfl, rfl, s2, q0, q1, (D3'.out.high s2 _).high s2 _, ⟨ZL.box R3 t0 t1 _ _, hR'.out.fr⟩, B3'.out.set2 _ _, ⟨ZL.box hv3.zl t0 t1 _ _, hv3.fr.mono (by simp; omega)⟩⟩
                  · (clear hHeld; simp only [List.getElem_toArray, List.getElem_cons_zero, List.getElem_cons_succ]; go_simp; refine hK.out _ _ ?_ (fun hHeld => ?_); focus (intro _; exact ⟨(hD'.out.alloc _).drew.bb.at_ 0 rfl, (hD'.out.alloc _).drew.bb.at_ 1 rfl⟩)); have hHeld := hHeld (by decide); clear hK K; (try simp only [Act.put, List.setIfInBounds_toArray, List.set_cons_zero, List.set_cons_succ])
                    (refine wpAnyL_one (i := 2) (o := _) (by kernel_rfl) rfl (fun K hK => ?_); clear hHeld; simp only [List.getElem_toArray, List.getElem_cons_zero, List.getElem_cons_succ]; go_simp; (go_at_call 28; (with_reducible refine (NC.out _).mono ?_); rintro e w2 ⟨_, rfl, ⟨b2, A2, n2, c2, rfl, hv2⟩, hb2⟩; have D2 := (hD'.out.alloc (.cells #[.bool false, .slice none 0 0] 39)).drew.below hb2; have B2 := Blk.after hb2 (Blk.new wc 39 #[.bool false, .slice none 0 0]) rfl (by simp); have R2 := (hR'.out.zl.alloc _).drew.below hb2; have z2 := hb2.size); refine hK.out _ _ ?_ (fun hHeld => ?_); focus (intro _; exact ⟨D2.bb.at_ 0 rfl, D2.bb.at_ 1 rfl⟩)); have hHeld := hHeld (by decide); clear hK K; (try simp only [Act.put, List.setIfInBounds_toArray, List.set_cons_zero, List.set_cons_succ])
                    (refine wpAnyL_one (i := 3) (o := _) (by kernel_rfl) rfl (fun K hK => ?_); clear hHeld; simp only [List.getElem_toArray, List.getElem_cons_zero, List.getElem_cons_succ]; go_simp; (go_at_call 54; (with_reducible refine (MC.out _ _ D2.bw hv2.v).mono ?_); rintro e w3 ⟨_, rfl, ⟨b3, A3, n3, c3, rfl, hv3⟩, hb3⟩; have D3 := D2.below hb3; have R3 := R2.below hb3; have z3 := hb3.size; have B3 := B2.below hb3 B2.lt); refine hK.out _ _ ?_ (fun hHeld => ?_); focus (intro _; exact ⟨D3.bb.at_ 0 rfl, D3.bb.at_ 1 rfl⟩)); have hHeld := hHeld (by decide); clear hK K; (try simp only [Act.put, List.setIfInBounds_toArray, List.set_cons_zero, List.set_cons_succ])
                    have t0 := B3.at_ 0 rfl
                    have t1 := B3.at_ 1 rfl
                    have f0 := B3.frozen 0
                    have f1 := B3.frozen 1
                    have B3' := Lib.hid B3
                    have D3' := Lib.hid D3
                    have s2 := D2.sz
                    clear D3 D2 B3 B2 hb3 hb2
                    clear hHeld
                    (refine wpAnyL_one (i := 5) (o := _) (by kernel_rfl) rfl (fun K hK => ?_); clear hHeld; simp only [List.getElem_toArray, List.getElem_cons_zero, List.getElem_cons_succ]; go_simp; refine hK.out _ _ ?_ (fun hHeld => ?_); focus (intro h; exact absurd h (by decide))); clear hK K; (try simp only [Act.put, List.setIfInBounds_toArray, List.set_cons_zero, List.set_cons_succ])
                    refine wpAnyL_done (by kernel_rfl) ?_ _
                    go_wp2
                    go_meet
                    exact ⟨mv, _, b3, A3, n3, c3, rfl, rfl, hsz, q0, q1, (D3'.out.high hsz _).high hsz _, ⟨ZL.box R3 t0 t1 _ _, hR'.out.fr⟩, B3'.out.set2 _ _, ⟨ZL.box hv3.zl t0 t1 _ _, hv3.fr.mono (by omega)⟩⟩
                case rest =>
                  obtain ⟨mv, gp, bp, Ap, np, cp, rfl, rfl, hgp, q0, q1, hD, hR, hBp, hP⟩ := hcut
                  --L4
                  have hRb : R1.natAbs < big 1000000 := by have := HBND.out 10000 (by omega) (by omega); omega
                  have HRB := Lib.hid hRb
                  clear hRb
                  go_wp2
                  go_loopw [14] (fun s14 wr => ∃ (mv : Int) (bp : Bool) (Ap : Option Addr) (np cp : Nat), s14 = .int .i64 mv ∧ 0 ≤ mv ∧ mv ≤ 100000000 ∧
                    DM w w1 wr g n #[.bool x, .slice A n c] #[.bool y, .slice B m d] #[.bool false, .slice (some adb) n1 c1] #[.bool br, .slice Ar nr cr] QL ∧ ZLF wr (g + 4) br Ar nr cr R1 ∧
                    Blk wr gp 39 #[.bool bp, .slice Ap np cp] ∧ ZLF wr (g + 4) bp Ap np cp (mv * Bv)) (fun s14 _ => (intOf s14).toNat)
                  case atStart => exact ⟨mv, bp, Ap, np, cp, rfl, q0, q1, hD, hR, hBp, hP⟩
                  case round =>
                    obtain ⟨mv, bp, Ap, np, cp, rfl, q0, q1, hD, hR, hBp, hP⟩ := hrel
                    have hmB : 0 ≤ mv * Bv := Int.mul_nonneg q0 (by omega)
                    have SZ := size_z hP.zl hR.zl hmB hR10 (HBND.out mv q0 (by omega)) HRB.out
                    have p15 := hBp.at_ 1 rfl
                    have p8 := hD.br.at_ 1 rfl
                    have hD' := Lib.hid hD
                    have hR' := Lib.hid hR
                    have hB' := Lib.hid hBp
                    have hP' := Lib.hid hP
                    clear hD hR hBp hP
                    by_cases hgt : R1 < mv * Bv
                    · rw [cmpv_gt hgt] at SZ
                      have SZ' := Lib.hid SZ
                      have hm1 : 1 ≤ mv := by
                        rcases Int.lt_or_le 0 mv with h | h
                        · omega
                        · obtain rfl : mv = 0 := by omega
                          omega
                      have SUBC : ∀ W, Below g w1 W → ZV W (.agg #[.bool bp, .slice Ap np cp]) (mv * Bv) → Calls Tryz.prog 77 #[.agg #[.bool bp, .slice Ap np cp], .agg #[.bool false, .slice (some adb) n1 c1]] W (RetZ W ((mv - 1) * Bv)) := by
                        intro W h1 h2
                        rw [show (mv - 1) * Bv = mv * Bv - Bv by rw [Int.sub_mul, Int.one_mul]]
                        exact ZSub_c _ _ _ Bv W h2 (ABZ.out W h1).v (HBND.out mv q0 (by omega)) (by have := HBND.out 1 (by omega) (by omega); rwa [Int.one_mul] at this)
                      have SUBC := Lib.hid SUBC
                      have p150 := hB'.out.at_ 0 rfl
                      have p60 := hD'.out.bb.at_ 0 rfl
                      have p61 := hD'.out.bb.at_ 1 rfl
                      clear SZ
                      go_wp2_with (first | (go_at_call 60; (with_reducible refine (SZ'.out).mono ?_); rintro e w' ⟨rfl, q, rfl⟩) | (go_at_call 77; (with_reducible refine (SUBC.out _ (hD'.out.drewN _).bw (hP'.out.zl.drewN _).v).mono ?_); rintro e w3 ⟨_, rfl, ⟨b3, A3, n3, c3, rfl, hv3⟩, hb3⟩; have B3 := (hB'.out.drewN _).below hb3 hB'.out.lt; have t0 := B3.at_ 0 rfl; have t1 := B3.at_ 1 rfl; have f0 := B3.frozen 0; have f1 := B3.frozen 1))
                      have D3 := (hD'.out.drewN q).below hb3
                      have R3 := (hR'.out.zl.drewN q).below hb3
                      have s3 := hD'.out.sz
                      exact ⟨⟨mv - 1, b3, A3, n3, c3, rfl, by omega, by omega, (D3.high hgp _).high hgp _, ⟨ZL.box R3 t0 t1 _ _, hR'.out.fr⟩, B3.set2 _ _, ⟨ZL.box hv3.zl t0 t1 _ _, hv3.fr.mono s3⟩⟩, by simp only [intOf]; omega⟩
                    · have cb := cmpv_bd (mv * Bv) R1
                      have hc : cmpv (mv * Bv) R1 ≤ 0 := by
                        by_cases h : mv * Bv < R1
                        · rw [cmpv_lt h]; omega
                        · rw [cmpv_eq (by omega)]; omega
                      generalize cmpv (mv * Bv) R1 = cv at SZ cb hc
                      have SZ' := Lib.hid SZ
                      clear SZ
                      go_wp2_with (first | (go_at_call 60; (with_reducible refine (SZ'.out).mono ?_); rintro e w' ⟨rfl, q, rfl⟩))
                      clear p15 p8 SZ' cb hc
                      --L5
                      have hle0 : mv * Bv ≤ R1 := by omega
                      have hMV : ∀ t : Int, t * Bv ≤ R1 → t < 10000 := by
                        intro t ht
                        rcases Int.lt_or_le t 10000 with h | h
                        · exact h
                        · have := Int.mul_le_mul_of_nonneg_right h (show 0 ≤ Bv by omega)
                          omega
                      have HMV := Lib.hid hMV
                      clear hMV hmB hgt q1
                      go_loopw [14] (fun s14 wr => ∃ (mv : Int) (bp : Bool) (Ap : Option Addr) (np cp : Nat), s14 = .int .i64 mv ∧ 0 ≤ mv ∧ mv * Bv ≤ R1 ∧
                        DM w w1 wr g n #[.bool x, .slice A n c] #[.bool y, .slice B m d] #[.bool false, .slice (some adb) n1 c1] #[.bool br, .slice Ar nr cr] QL ∧ ZLF wr (g + 4) br Ar nr cr R1 ∧
                        Blk wr gp 39 #[.bool bp, .slice Ap np cp] ∧ ZLF wr (g + 4) bp Ap np cp (mv * Bv)) (fun s14 _ => (20000 - intOf s14).toNat)
                      case atStart => exact ⟨mv, bp, Ap, np, cp, rfl, q0, hle0, hD'.out.drewN q, ⟨hR'.out.zl.drewN q, hR'.out.fr⟩, hB'.out.drewN q, ⟨hP'.out.zl.drewN q, hP'.out.fr⟩⟩
                      case round =>
                        clear hle0 q0 hD' hR' hB' hP' 
                        obtain ⟨mv, bp, Ap, np, cp, rfl, q0, hle0, hD, hR, hBp, hP⟩ := hrel
                        have q1 := HMV.out mv hle0
                        have hD' := Lib.hid hD
                        have hR' := Lib.hid hR
                        have hB' := Lib.hid hBp
                        have hP' := Lib.hid hP
                        have s1 := hD.sz
                        clear hD hR hBp hP
                        have hmB : 0 ≤ (mv + 1) * Bv := Int.mul_nonneg (by omega) (by omega)
                        have hmB2 := HBND.out (mv + 1) (by omega) (by omega)
                        have ADDC : ∀ W, Below g w1 W → ZV W (.agg #[.bool bp, .slice Ap np cp]) (mv * Bv) → Calls Tryz.prog 53 #[.agg #[.bool bp, .slice Ap np cp], .agg #[.bool false, .slice (some adb) n1 c1]] W (RetZ W ((mv + 1) * Bv)) := by
                          intro W h1 h2
                          rw [show (mv + 1) * Bv = mv * Bv + Bv by rw [Int.add_mul, Int.one_mul]]
                          exact ZAdd_c _ _ _ Bv W h2 (ABZ.out W h1).v (HBND.out mv q0 (by omega)) (by have := HBND.out 1 (by omega) (by omega); rwa [Int.one_mul] at this)
                        have ADDC := Lib.hid ADDC
                        have SZ2 := fun W b3 A3 n3 c3 (h1 : ZL W b3 A3 n3 c3 ((mv + 1) * Bv)) (h2 : ZL W br Ar nr cr R1) => size_z h1 h2 hmB hR10 hmB2 HRB.out
                        by_cases hle : (mv + 1) * Bv ≤ R1
                        · have cb := cmpv_bd ((mv + 1) * Bv) R1
                          have hc : cmpv ((mv + 1) * Bv) R1 ≤ 0 := by
                            by_cases h : (mv + 1) * Bv < R1
                            · rw [cmpv_lt h]; omega
                            · rw [cmpv_eq (by omega)]; omega
                          generalize cmpv ((mv + 1) * Bv) R1 = cv at SZ2 cb hc
                          have SZ2' := Lib.hid SZ2
                          have HLE := Lib.hid hle
                          clear SZ2 hle hle0 hmB hmB2
                          go_wp2
                          (refine wp_region_L (S := fun w' => w'.cell? ⟨gp, 0, none⟩ = some (.bool bp) ∧ w'.cell? ⟨gp, 1, none⟩ = some (.slice Ap np cp) ∧ w'.cell? ⟨g, 0, none⟩ = some (.bool false) ∧ w'.cell? ⟨g, 1, none⟩ = some (.slice (some adb) n1 c1) ∧ w'.cell? ⟨g + 3, 1, none⟩ = some (.slice Ar nr cr)) (nl := 1000000) (by kernel_rfl) ?_ (fun hHeld => ?_); focus (exact ⟨hB'.out.drew.at_ 0 rfl, hB'.out.drew.at_ 1 rfl, hD'.out.drew.bb.at_ 0 rfl, hD'.out.drew.bb.at_ 1 rfl, hD'.out.drew.br.at_ 1 rfl⟩))
                          (refine wpAnyL_take (i := 0) (oi := _) (v := ?_) rfl (by kernel_rfl) (by kernel_rfl) (by kernel_rfl) (fun _ _ _ h => h) (Or.inl ⟨by first | rfl | kernel_rfl, ?hy11⟩) (by assumption) ?rs11; (case hy11 => (intro w hSw; (try dsimp only at hSw); go_simp; first | done | with_reducible rfl)); case' rs11 => (simp only [List.getElem_toArray, List.getElem_cons_zero, List.getElem_cons_succ, Act.put, List.setIfInBounds_toArray, List.set_cons_zero, List.set_cons_succ])); (refine wpAnyL_take (i := 1) (oi := _) (v := ?_) rfl (by kernel_rfl) (by kernel_rfl) (by kernel_rfl) (fun _ _ _ h => h) (Or.inl ⟨by first | rfl | kernel_rfl, ?hy12⟩) (by assumption) ?rs12; (case hy12 => (intro w hSw; (try dsimp only at hSw); go_simp; first | done | with_reducible rfl)); case' rs12 => (simp only [List.getElem_toArray, List.getElem_cons_zero, List.getElem_cons_succ, Act.put, List.setIfInBounds_toArray, List.set_cons_zero, List.set_cons_succ])); (refine wpAnyL_take (i := 4) (oi := _) (v := ?_) rfl (by kernel_rfl) (by kernel_rfl) (by kernel_rfl) (fun _ _ _ h => h) (Or.inl ⟨by first | rfl | kernel_rfl, ?hy13⟩) (by assumption) ?rs13; (case hy13 => (intro w hSw; (try dsimp only at hSw); go_simp; first | done | with_reducible rfl)); case' rs13 => (simp only [List.getElem_toArray, List.getElem_cons_zero, List.getElem_cons_succ, Act.put, List.setIfInBounds_toArray, List.set_cons_zero, List.set_cons_succ])); (refine wpAnyL_take (i := 5) (oi := _) (v := ?_) rfl (by kernel_rfl) (by kernel_rfl) (by kernel_rfl) (fun _ _ _ h => h) (Or.inl ⟨by first | rfl | kernel_rfl, ?hy14⟩) (by assumption) ?rs14; (case hy14 => (intro w hSw; (try dsimp only at hSw); go_simp; first | done | with_reducible rfl)); case' rs14 => (simp only [List.getElem_toArray, List.getElem_cons_zero, List.getElem_cons_succ, Act.put, List.setIfInBounds_toArray, List.set_cons_zero, List.set_cons_succ])); skip
                          (refine wpAnyL_one (i := 2) (o := _) (by kernel_rfl) rfl (fun K hK => ?_); clear hHeld; simp only [List.getElem_toArray, List.getElem_cons_zero, List.getElem_cons_succ]; go_simp; (go_at_call 53; (with_reducible refine (ADDC.out _ hD'.out.drew.bw hP'.out.zl.drew.v).mono ?_); rintro e w3 ⟨_, rfl, ⟨b3, A3, n3, c3, rfl, hv3⟩, hb3⟩; have D3 := hD'.out.drew.below hb3; have R3 := hR'.out.zl.drew.below hb3; have P3 := hP'.out.zl.drew.below hb3; have B3 := Blk.after hb3 hB'.out rfl hB'.out.lt); refine hK.out _ _ ?_ (fun hHeld => ?_); focus (intro _; exact ⟨B3.at_ 0 rfl, B3.at_ 1 rfl, D3.bb.at_ 0 rfl, D3.bb.at_ 1 rfl, D3.br.at_ 1 rfl⟩)); have hHeld := hHeld (by decide); clear hK K; (try simp only [Act.put, List.setIfInBounds_toArray, List.set_cons_zero, List.set_cons_succ])
                          have D3' := Lib.hid D3
                          have R3' := Lib.hid R3
                          have P3' := Lib.hid P3
                          have B3' := Lib.hid B3
                          have V3' := Lib.hid hv3
                          clear D3 R3 P3 B3 hv3 hb3
                          have hfl : ∀ W : World, (Instr.field 39 (.agg #[.bool b3, .slice A3 n3 c3]) 1).run Tryz.prog W = .ok (.slice A3 n3 c3) W := fun W => field_z _ _ _ _ W
                          (refine wpAnyL_take (i := 3) (oi := _) (v := ?_) rfl (by kernel_rfl) (by kernel_rfl) (by kernel_rfl) (fun _ _ _ h => h) (Or.inl ⟨by first | rfl | kernel_rfl, ?hy15⟩) (by assumption) ?rs15; (case hy15 => (intro w hSw; (try dsimp only at hSw); go_simp; first | done | with_reducible rfl)); case' rs15 => (simp only [List.getElem_toArray, List.getElem_cons_zero, List.getElem_cons_succ, Act.put, List.setIfInBounds_toArray, List.set_cons_zero, List.set_cons_succ])); skip
                          clear hfl
                          (refine wpAnyL_one (i := 6) (o := _) (by kernel_rfl) rfl (fun K hK => ?_); clear hHeld; simp only [List.getElem_toArray, List.getElem_cons_zero, List.getElem_cons_succ]; go_simp; (go_at_call 60; (with_reducible refine (SZ2'.out _ _ _ _ _ V3'.out.zl R3'.out).mono ?_); rintro e w4 ⟨rfl, q2, rfl⟩); refine hK.out _ _ ?_ (fun hHeld => ?_); focus (intro _; exact ⟨(B3'.out.drewN _).at_ 0 rfl, (B3'.out.drewN _).at_ 1 rfl, (D3'.out.drewN _).bb.at_ 0 rfl, (D3'.out.drewN _).bb.at_ 1 rfl, (D3'.out.drewN _).br.at_ 1 rfl⟩)); have hHeld := hHeld (by decide); clear hK K; (try simp only [Act.put, List.setIfInBounds_toArray, List.set_cons_zero, List.set_cons_succ])
                          (refine wpAnyL_take (i := 7) (oi := _) (v := ?_) rfl (by kernel_rfl) (by kernel_rfl) (by kernel_rfl) (fun _ _ _ h => h) (Or.inl ⟨by first | rfl | kernel_rfl, ?hy16⟩) (by assumption) ?rs16; (case hy16 => (intro w hSw; (try dsimp only at hSw); go_simp; first | done | with_reducible rfl)); case' rs16 => (simp only [List.getElem_toArray, List.getElem_cons_zero, List.getElem_cons_succ, Act.put, List.setIfInBounds_toArray, List.set_cons_zero, List.set_cons_succ])); skip
                          refine wpAnyL_done (by kernel_rfl) ?_ _
                          have t150 := (B3'.out.drewN q2).at_ 0 rfl
                          have t151 := (B3'.out.drewN q2).at_ 1 rfl
                          have t60 := (D3'.out.drewN q2).bb.at_ 0 rfl
                          have t61 := (D3'.out.drewN q2).bb.at_ 1 rfl
                          go_wp2_with (go_at_call 53; (with_reducible refine (ADDC.out _ (D3'.out.drewN _).bw (P3'.out.drewN _).v).mono ?_); rintro e w5 ⟨_, rfl, ⟨b5, A5, n5, c5, rfl, hv5⟩, hb5⟩; have B5 := (B3'.out.drewN _).below hb5 B3'.out.lt; have u0 := B5.at_ 0 rfl; have u1 := B5.at_ 1 rfl; have f0 := B5.frozen 0; have f1 := B5.frozen 1)
                          have D5 := (D3'.out.drewN q2).below hb5
                          have R5 := (R3'.out.drewN q2).below hb5
                          have s5 := (D3'.out.drewN q2).sz
                          exact ⟨⟨mv + 1, b5, A5, n5, c5, rfl, by omega, HLE.out, (D5.high hgp _).high hgp _, ⟨ZL.box R5 u0 u1 _ _, hR'.out.fr⟩, B5.set2 _ _, ⟨ZL.box hv5.zl u0 u1 _ _, hv5.fr.mono s5⟩⟩, by simp only [intOf]; omega⟩
                        · rw [cmpv_gt (show R1 < (mv + 1) * Bv by omega)] at SZ2
                          have SZ2' := Lib.hid SZ2
                          have HLE := Lib.hid (show R1 < (mv + 1) * Bv by omega)
                          have HLE0 := Lib.hid hle0
                          clear SZ2 hle hle0 hmB hmB2
                          go_wp2
                          (refine wp_region_L (S := fun w' => w'.cell? ⟨gp, 0, none⟩ = some (.bool bp) ∧ w'.cell? ⟨gp, 1, none⟩ = some (.slice Ap np cp) ∧ w'.cell? ⟨g, 0, none⟩ = some (.bool false) ∧ w'.cell? ⟨g, 1, none⟩ = some (.slice (some adb) n1 c1) ∧ w'.cell? ⟨g + 3, 1, none⟩ = some (.slice Ar nr cr)) (nl := 1000000) (by kernel_rfl) ?_ (fun hHeld => ?_); focus (exact ⟨hB'.out.drew.at_ 0 rfl, hB'.out.drew.at_ 1 rfl, hD'.out.drew.bb.at_ 0 rfl, hD'.out.drew.bb.at_ 1 rfl, hD'.out.drew.br.at_ 1 rfl⟩))
                          (refine wpAnyL_take (i := 0) (oi := _) (v := ?_) rfl (by kernel_rfl) (by kernel_rfl) (by kernel_rfl) (fun _ _ _ h => h) (Or.inl ⟨by first | rfl | kernel_rfl, ?hy17⟩) (by assumption) ?rs17; (case hy17 => (intro w hSw; (try dsimp only at hSw); go_simp; first | done | with_reducible rfl)); case' rs17 => (simp only [List.getElem_toArray, List.getElem_cons_zero, List.getElem_cons_succ, Act.put, List.setIfInBounds_toArray, List.set_cons_zero, List.set_cons_succ])); (refine wpAnyL_take (i := 1) (oi := _) (v := ?_) rfl (by kernel_rfl) (by kernel_rfl) (by kernel_rfl) (fun _ _ _ h => h) (Or.inl ⟨by first | rfl | kernel_rfl, ?hy18⟩) (by assumption) ?rs18; (case hy18 => (intro w hSw; (try dsimp only at hSw); go_simp; first | done | with_reducible rfl)); case' rs18 => (simp only [List.getElem_toArray, List.getElem_cons_zero, List.getElem_cons_succ, Act.put, List.setIfInBounds_toArray, List.set_cons_zero, List.set_cons_succ])); (refine wpAnyL_take (i := 4) (oi := _) (v := ?_) rfl (by kernel_rfl) (by kernel_rfl) (by kernel_rfl) (fun _ _ _ h => h) (Or.inl ⟨by first | rfl | kernel_rfl, ?hy19⟩) (by assumption) ?rs19; (case hy19 => (intro w hSw; (try dsimp only at hSw); go_simp; first | done | with_reducible rfl)); case' rs19 => (simp only [List.getElem_toArray, List.getElem_cons_zero, List.getElem_cons_succ, Act.put, List.setIfInBounds_toArray, List.set_cons_zero, List.set_cons_succ])); (refine wpAnyL_take (i := 5) (oi := _) (v := ?_) rfl (by kernel_rfl) (by kernel_rfl) (by kernel_rfl) (fun _ _ _ h => h) (Or.inl ⟨by first | rfl | kernel_rfl, ?hy20⟩) (by assumption) ?rs20; (case hy20 => (intro w hSw; (try dsimp only at hSw); go_simp; first | done | with_reducible rfl)); case' rs20 => (simp only [List.getElem_toArray, List.getElem_cons_zero, List.getElem_cons_succ, Act.put, List.setIfInBounds_toArray, List.set_cons_zero, List.set_cons_succ])); skip
                          (refine wpAnyL_one (i := 2) (o := _) (by kernel_rfl) rfl (fun K hK => ?_); clear hHeld; simp only [List.getElem_toArray, List.getElem_cons_zero, List.getElem_cons_succ]; go_simp; (go_at_call 53; (with_reducible refine (ADDC.out _ hD'.out.drew.bw hP'.out.zl.drew.v).mono ?_); rintro e w3 ⟨_, rfl, ⟨b3, A3, n3, c3, rfl, hv3⟩, hb3⟩; have D3 := hD'.out.drew.below hb3; have R3 := hR'.out.zl.drew.below hb3; have P3 := hP'.out.zl.drew.below hb3; have B3 := Blk.after hb3 hB'.out rfl hB'.out.lt); refine hK.out _ _ ?_ (fun hHeld => ?_); focus (intro _; exact ⟨B3.at_ 0 rfl, B3.at_ 1 rfl, D3.bb.at_ 0 rfl, D3.bb.at_ 1 rfl, D3.br.at_ 1 rfl⟩)); have hHeld := hHeld (by decide); clear hK K; (try simp only [Act.put, List.setIfInBounds_toArray, List.set_cons_zero, List.set_cons_succ])
                          have D3' := Lib.hid D3
                          have R3' := Lib.hid R3
                          have P3' := Lib.hid P3
                          have B3' := Lib.hid B3
                          have V3' := Lib.hid hv3
                          clear D3 R3 P3 B3 hv3 hb3
                          have hfl : ∀ W : World, (Instr.field 39 (.agg #[.bool b3, .slice A3 n3 c3]) 1).run Tryz.prog W = .ok (.slice A3 n3 c3) W := fun W => field_z _ _ _ _ W
                          (refine wpAnyL_take (i := 3) (oi := _) (v := ?_) rfl (by kernel_rfl) (by kernel_rfl) (by kernel_rfl) (fun _ _ _ h => h) (Or.inl ⟨by first | rfl | kernel_rfl, ?hy21⟩) (by assumption) ?rs21; (case hy21 => (intro w hSw; (try dsimp only at hSw); go_simp; first | done | with_reducible rfl)); case' rs21 => (simp only [List.getElem_toArray, List.getElem_cons_zero, List.getElem_cons_succ, Act.put, List.setIfInBounds_toArray, List.set_cons_zero, List.set_cons_succ])); skip
                          clear hfl
                          (refine wpAnyL_one (i := 6) (o := _) (by kernel_rfl) rfl (fun K hK => ?_); clear hHeld; simp only [List.getElem_toArray, List.getElem_cons_zero, List.getElem_cons_succ]; go_simp; (go_at_call 60; (with_reducible refine (SZ2'.out _ _ _ _ _ V3'.out.zl R3'.out).mono ?_); rintro e w4 ⟨rfl, q2, rfl⟩); refine hK.out _ _ ?_ (fun hHeld => ?_); focus (intro _; exact ⟨(B3'.out.drewN _).at_ 0 rfl, (B3'.out.drewN _).at_ 1 rfl, (D3'.out.drewN _).bb.at_ 0 rfl, (D3'.out.drewN _).bb.at_ 1 rfl, (D3'.out.drewN _).br.at_ 1 rfl⟩)); have hHeld := hHeld (by decide); clear hK K; (try simp only [Act.put, List.setIfInBounds_toArray, List.set_cons_zero, List.set_cons_succ])
                          (refine wpAnyL_take (i := 7) (oi := _) (v := ?_) rfl (by kernel_rfl) (by kernel_rfl) (by kernel_rfl) (fun _ _ _ h => h) (Or.inl ⟨by first | rfl | kernel_rfl, ?hy22⟩) (by assumption) ?rs22; (case hy22 => (intro w hSw; (try dsimp only at hSw); go_simp; first | done | with_reducible rfl)); case' rs22 => (simp only [List.getElem_toArray, List.getElem_cons_zero, List.getElem_cons_succ, Act.put, List.setIfInBounds_toArray, List.set_cons_zero, List.set_cons_succ])); skip
                          refine wpAnyL_done (by kernel_rfl) ?_ _
                          --L6
                          have RSUB : ∀ W, ZV W (.agg #[.bool br, .slice Ar nr cr]) R1 → ZV W (.agg #[.bool bp, .slice Ap np cp]) (mv * Bv) → Calls Tryz.prog 77 #[.agg #[.bool br, .slice Ar nr cr], .agg #[.bool bp, .slice Ap np cp]] W (RetZ W (R1 - mv * Bv)) :=
                            fun W h1 h2 => ZSub_c _ _ _ _ W h1 h2 HRB.out (HBND.out mv q0 (by omega))
                          have RSUB := Lib.hid RSUB
                          have hst := hI'.out.step DX.out HN.out (show k < n by omega) q0 (by rw [← HR1.out]; exact HLE0.out) (by rw [← HR1.out]; exact HLE.out)
                          rw [← HR1.out] at hst
                          have HST := Lib.hid hst
                          have lenQ := hI'.out.len
                          have D4 := Lib.hid (D3'.out.drewN q2)
                          have B4 := Lib.hid (B3'.out.drewN q2)
                          have R4 := Lib.hid (⟨R3'.out.drewN q2, hR'.out.fr⟩ : ZLF (w3.drewN q2) (g + 4) br Ar nr cr R1)
                          have P4 := Lib.hid (⟨P3'.out.drewN q2, hP'.out.fr⟩ : ZLF (w3.drewN q2) (g + 4) bp Ap np cp (mv * Bv))
                          have t21 := D4.out.bq.at_ 1 rfl
                          have tqk := D4.out.bs.at_ k (by omega)
                          have fqk := D4.out.bs.frozen k
                          have u150 := B4.out.at_ 0 rfl
                          have u151 := B4.out.at_ 1 rfl
                          have u80 := D4.out.br.at_ 0 rfl
                          have u81 := D4.out.br.at_ 1 rfl
                          have d4 := D4.out.setQ k mv
                          have hp4 : (⟨g + 1, k, none⟩ : Addr).block < g + 4 := by simp
                          have R5 : Hid (ZL ((w3.drewN q2).setCell ⟨g + 1, k, none⟩ (.int .i64 mv)) br Ar nr cr R1) := ZLF.far R4.out hp4 _
                          have P5 : Hid (ZL ((w3.drewN q2).setCell ⟨g + 1, k, none⟩ (.int .i64 mv)) bp Ap np cp (mv * Bv)) := ZLF.far P4.out hp4 _
                          have D5 := Lib.hid d4
                          have s5 := d4.sz
                          clear hst lenQ d4 hI'
                          go_wp2_with (go_at_call 77; (with_reducible refine (RSUB.out _ R5.out.v P5.out.v).mono ?_); rintro e w6 ⟨_, rfl, ⟨b6, A6, n6, c6, rfl, hv6⟩, hb6⟩; have D6 := D5.out.below hb6; have v0 := D6.br.at_ 0 rfl; have v1 := D6.br.at_ 1 rfl; have f0 := D6.br.frozen 0; have f1 := D6.br.frozen 1)
                          exact ⟨⟨k, _, _, b6, A6, n6, c6, by simp, by omega, HST.out, D6.setR _ _, ⟨ZL.box hv6.zl v0 v1 _ _, hv6.fr.mono s5⟩⟩, by simp only [intOf]; omega⟩
        · obtain rfl : k1 = 0 := by omega
          --L7
          have hdone := hI.out.done
          have hQd := hI.out.dig
          have hQl := hI.out.len
          have hR0 := hI.out.r0
          have hR1 := hI.out.r1
          obtain ⟨q0, eq0⟩ : ∃ q0, q0 = val QL := ⟨_, rfl⟩
          have hq0 : 0 ≤ q0 := by rw [eq0]; exact val_nonneg hQd
          have hnum : q0 * Bv + R = (a.natAbs : Int) := by rw [eq0, hdone]; exact HX.out.2
          have TR := Lib.hid (fun W (h : DM w w1 W g n #[.bool x, .slice A n c] #[.bool y, .slice B m d] #[.bool false, .slice (some adb) n1 c1] #[.bool br, .slice Ar nr cr] QL) => trim_c false (some ⟨g + 1, 0, none⟩) n n QL W (by have := h.bs.sl n (by omega); rw [hQl] at this; exact this) hQd (by omega))
          have esg : sg false (val QL) = q0 := by rw [eq0]; rfl
          rw [esg] at TR
          have hqa : q0 ≤ (a.natAbs : Int) := by
            have := Int.mul_le_mul_of_nonneg_left (show (1 : Int) ≤ Bv by omega) hq0
            omega
          have hqc := Lib.hid (succ_bnd hq0 (by have := BAA.out; omega : q0.natAbs < big 900000))
          have hqb := Lib.hid (show q0.natAbs < big 1000000 by have := big_mono (show 900000 ≤ 1000000 by decide); have := BAA.out; omega)
          have hrb := Lib.hid (show R.natAbs < big 1000000 by have := HBND.out 1 (by omega) (by omega); rw [Int.one_mul] at this; omega)
          have HNUM := Lib.hid hnum
          have hD' := Lib.hid hD
          have hR' := Lib.hid hR
          have HYb := Lib.hid (show Bv.natAbs < big 1000000 by have := HBND.out 1 (by omega) (by omega); rwa [Int.one_mul] at this)
          clear hdone hQd hQl eq0 esg hqa hnum hI hD hR
          go_upto_region 28 with fail
          go_cut [8] (fun s8 wx => s8 = .pointer (some ⟨g + 3, 0, none⟩) ∧ ∃ (bq : Bool) (Aq : Option Addr) (nq cq : Nat), TM w w1 wx g #[.bool x, .slice A n c] #[.bool y, .slice B m d] #[.bool false, .slice (some adb) n1 c1] #[.bool bq, .slice Aq nq cq] #[.bool br, .slice Ar nr cr] ∧ ZL wx bq Aq nq cq q0 ∧ ZL wx br Ar nr cr R)
          case first =>
            have t0 := hD'.out.bq.at_ 0 rfl
            have t1 := hD'.out.bq.at_ 1 rfl
            go_wp2_with (go_at_call 76; (with_reducible refine (TR.out _ hD'.out).mono ?_); rintro e w3 ⟨b3, n3, rfl, hn3, hv3, hb3⟩; have D3 := hD'.out.below hb3; have v0 := D3.bq.at_ 0 rfl; have v1 := D3.bq.at_ 1 rfl; have f0 := D3.bq.frozen 0; have f1 := D3.bq.frozen 1)
            go_meet
            have R3 := hR'.out.below hb3
            exact ⟨rfl, _, _, _, _, (TM.of D3).setQ _ _, ZL.box hv3 v0 v1 _ _, ZL.box R3 v0 v1 _ _⟩
          case rest =>
            clear hD' hR' TR
            obtain ⟨rfl, bq, Aq, nq, cq, hT, hQ, hR⟩ := hcut
            --L8
            obtain ⟨hnr0, hnr1⟩ := hR.zero
            have p00 := hT.b0.at_ 0 rfl
            have p81 := hT.br.at_ 1 rfl
            have hT' := Lib.hid hT
            have hQ' := Lib.hid hQ
            have hR' := Lib.hid hR
            have HNR0 := Lib.hid hnr0
            have HNR1 := Lib.hid hnr1
            have HEQ := Lib.hid (And.intro EBV.out (And.intro HNUM.out (And.intro hR0 hR1)))
            have XA := Lib.hid HX.out.1
            have YA := Lib.hid HYB.out
            clear hT hQ hR hnr0 hnr1
            cases x
            · have hRp : True := trivial
              cases y
              · have E0 := eu_ff h0 HEQ.out.1 HEQ.out.2.1 HEQ.out.2.2.1 HEQ.out.2.2.2 XA.out YA.out
                have E1 := Lib.hid E0.1
                have E2 := Lib.hid E0.2
                clear E0
                have hqb2 : Hid ((q0).natAbs < big 1000000) := hqb.out
                have p00 := hT'.out.b0.at_ 0 rfl
                have p10 := hT'.out.b1.at_ 0 rfl
                have p70 := hT'.out.bq.at_ 0 rfl
                have p71 := hT'.out.bq.at_ 1 rfl
                have p80 := hT'.out.br.at_ 0 rfl
                have p81 := hT'.out.br.at_ 1 rfl
                have p20 := hT'.out.b2.at_ 0 rfl
                have p21 := hT'.out.b2.at_ 1 rfl
                have p30 := hT'.out.b3.at_ 0 rfl
                have p31 := hT'.out.b3.at_ 1 rfl
                have f20 := hT'.out.b2.frozen 0
                have f21 := hT'.out.b2.frozen 1
                have f30 := hT'.out.b3.frozen 0
                have f31 := hT'.out.b3.frozen 1
                have hgg := hT'.out.hg
                go_wp2
                go_region
                all_goals
                  have Q8 := Lib.hid (ZL.box hQ'.out p20 p21 (.bool bq) (.slice Aq nq cq))
                  have R8 := Lib.hid (ZL.box hR'.out p20 p21 (.bool bq) (.slice Aq nq cq))
                  have B8 := Lib.hid (hT'.out.b3.far2 (g' := w.heap.size + 2) (by omega) (.bool bq) (.slice Aq nq cq))
                  have L8 := Lib.hid (below_set2 hT'.out.lo (show w.heap.size ≤ w.heap.size + 2 by omega) (.bool bq) (.slice Aq nq cq))
                  go_wp2
                  refine bodyPost_ret (v := .tuple #[.agg #[.bool bq, .slice Aq nq cq], .agg #[.bool br, .slice Ar nr cr]]) (by simp [results, Tryz.results56, go_sem, p20, p21, p30, p31]) rfl ?_
                  rw [E1.out, E2.out]
                  exact ⟨_, _, rfl, (ZL.box Q8.out (B8.out.at_ 0 rfl) (B8.out.at_ 1 rfl) _ _).drew.v, (ZL.box R8.out (B8.out.at_ 0 rfl) (B8.out.at_ 1 rfl) _ _).drew.v, (below_set2 (g := w.heap.size + 3) L8.out (by omega) _ _).drew⟩
              · have E0 := eu_ft h0 HEQ.out.1 HEQ.out.2.1 HEQ.out.2.2.1 HEQ.out.2.2.2 XA.out YA.out
                have E1 := Lib.hid E0.1
                have E2 := Lib.hid E0.2
                clear E0
                have hqb2 : Hid ((q0).natAbs < big 1000000) := hqb.out
                have p00 := hT'.out.b0.at_ 0 rfl
                have p10 := hT'.out.b1.at_ 0 rfl
                have p70 := hT'.out.bq.at_ 0 rfl
                have p71 := hT'.out.bq.at_ 1 rfl
                have p80 := hT'.out.br.at_ 0 rfl
                have p81 := hT'.out.br.at_ 1 rfl
                have p20 := hT'.out.b2.at_ 0 rfl
                have p21 := hT'.out.b2.at_ 1 rfl
                have p30 := hT'.out.b3.at_ 0 rfl
                have p31 := hT'.out.b3.at_ 1 rfl
                have f20 := hT'.out.b2.frozen 0
                have f21 := hT'.out.b2.frozen 1
                have f30 := hT'.out.b3.frozen 0
                have f31 := hT'.out.b3.frozen 1
                have hgg := hT'.out.hg
                go_wp2_with (go_at_call 55; (with_reducible refine (ZNeg_c _ _ _ hQ'.out.v hqb2.out).mono ?_); rintro e w9 ⟨_, rfl, ⟨b9, A9, n9, c9, rfl, hv9⟩, hb9⟩; have T9 := hT'.out.below hb9; have R9 := hR'.out.below hb9; have v0 := T9.bq.at_ 0 rfl; have v1 := T9.bq.at_ 1 rfl; have f0 := T9.bq.frozen 0; have f1 := T9.bq.frozen 1; clear p00 p10 p70 p71 p80 p81 p20 p21 p30 p31 f20 f21 f30 f31)
                have T10 := Lib.hid (T9.setQ (.bool b9) (.slice A9 n9 c9))
                have Q10 := Lib.hid (ZL.box hv9 v0 v1 (.bool b9) (.slice A9 n9 c9))
                have R10 := Lib.hid (ZL.box R9 v0 v1 (.bool b9) (.slice A9 n9 c9))
                have p70 := T10.out.bq.at_ 0 rfl
                have p71 := T10.out.bq.at_ 1 rfl
                have p80 := T10.out.br.at_ 0 rfl
                have p81 := T10.out.br.at_ 1 rfl
                have p20 := T10.out.b2.at_ 0 rfl
                have p21 := T10.out.b2.at_ 1 rfl
                have p30 := T10.out.b3.at_ 0 rfl
                have p31 := T10.out.b3.at_ 1 rfl
                have f20 := T10.out.b2.frozen 0
                have f21 := T10.out.b2.frozen 1
                have f30 := T10.out.b3.frozen 0
                have f31 := T10.out.b3.frozen 1
                clear T9 R9 v0 v1 f0 f1 hb9 hv9
                go_region
                all_goals
                  have Q8 := Lib.hid (ZL.box Q10.out p20 p21 (.bool b9) (.slice A9 n9 c9))
                  have R8 := Lib.hid (ZL.box R10.out p20 p21 (.bool b9) (.slice A9 n9 c9))
                  have B8 := Lib.hid (T10.out.b3.far2 (g' := w.heap.size + 2) (by omega) (.bool b9) (.slice A9 n9 c9))
                  have L8 := Lib.hid (below_set2 T10.out.lo (show w.heap.size ≤ w.heap.size + 2 by omega) (.bool b9) (.slice A9 n9 c9))
                  go_wp2
                  refine bodyPost_ret (v := .tuple #[.agg #[.bool b9, .slice A9 n9 c9], .agg #[.bool br, .slice Ar nr cr]]) (by simp [results, Tryz.results56, go_sem, p20, p21, p30, p31]) rfl ?_
                  rw [E1.out, E2.out]
                  exact ⟨_, _, rfl, (ZL.box Q8.out (B8.out.at_ 0 rfl) (B8.out.at_ 1 rfl) _ _).drew.v, (ZL.box R8.out (B8.out.at_ 0 rfl) (B8.out.at_ 1 rfl) _ _).drew.v, (below_set2 (g := w.heap.size + 3) L8.out (by omega) _ _).drew⟩
            · by_cases hpos : 0 < nr
              · have hRp : 0 < R := by have := HNR1.out hpos; omega
                have NC1 := Lib.hid (fun W => N_c 1 (by omega) (by omega) W)
                have ADD1 := Lib.hid (fun W vb (h1 : ZV W (.agg #[.bool bq, .slice Aq nq cq]) q0) (h2 : ZV W vb 1) => ZAdd_c _ vb q0 1 W h1 h2 hqb.out (by have := big_mono (show 3 ≤ 1000000 by decide); rw [big3] at this; simp; omega))
                have SUB1 := Lib.hid (fun W (h1 : Below g w1 W) (h2 : ZV W (.agg #[.bool br, .slice Ar nr cr]) R) => ZSub_c _ _ Bv R W (ABZ.out W h1).v h2 HYb.out hrb.out)
                have p70 := hT'.out.bq.at_ 0 rfl
                go_upto_region 30 with fail
                (refine wp_region_L (S := fun w' => w'.cell? ⟨g + 2, 0, none⟩ = some (.bool bq) ∧ w'.cell? ⟨g + 2, 1, none⟩ = some (.slice Aq nq cq) ∧ w'.cell? ⟨g, 0, none⟩ = some (.bool false) ∧ w'.cell? ⟨g, 1, none⟩ = some (.slice (some adb) n1 c1) ∧ w'.cell? ⟨g + 3, 0, none⟩ = some (.bool br) ∧ w'.cell? ⟨g + 3, 1, none⟩ = some (.slice Ar nr cr)) (nl := 6) (by kernel_rfl) ?_ (fun hHeld => ?_); focus (exact ⟨hT'.out.drew.bq.at_ 0 rfl, hT'.out.drew.bq.at_ 1 rfl, hT'.out.drew.bb.at_ 0 rfl, hT'.out.drew.bb.at_ 1 rfl, hT'.out.drew.br.at_ 0 rfl, hT'.out.drew.br.at_ 1 rfl⟩))
                (refine wpAnyL_take (i := 0) (oi := _) (v := ?_) rfl (by kernel_rfl) (by kernel_rfl) (by kernel_rfl) (fun _ _ _ h => h) (Or.inl ⟨by first | rfl | kernel_rfl, ?hy23⟩) (by assumption) ?rs23; (case hy23 => (intro w hSw; (try dsimp only at hSw); go_simp; first | done | with_reducible rfl)); case' rs23 => (simp only [List.getElem_toArray, List.getElem_cons_zero, List.getElem_cons_succ, Act.put, List.setIfInBounds_toArray, List.set_cons_zero, List.set_cons_succ])); (refine wpAnyL_take (i := 3) (oi := _) (v := ?_) rfl (by kernel_rfl) (by kernel_rfl) (by kernel_rfl) (fun _ _ _ h => h) (Or.inl ⟨by first | rfl | kernel_rfl, ?hy24⟩) (by assumption) ?rs24; (case hy24 => (intro w hSw; (try dsimp only at hSw); go_simp; first | done | with_reducible rfl)); case' rs24 => (simp only [List.getElem_toArray, List.getElem_cons_zero, List.getElem_cons_succ, Act.put, List.setIfInBounds_toArray, List.set_cons_zero, List.set_cons_succ])); (refine wpAnyL_take (i := 4) (oi := _) (v := ?_) rfl (by kernel_rfl) (by kernel_rfl) (by kernel_rfl) (fun _ _ _ h => h) (Or.inl ⟨by first | rfl | kernel_rfl, ?hy25⟩) (by assumption) ?rs25; (case hy25 => (intro w hSw; (try dsimp only at hSw); go_simp; first | done | with_reducible rfl)); case' rs25 => (simp only [List.getElem_toArray, List.getElem_cons_zero, List.getElem_cons_succ, Act.put, List.setIfInBounds_toArray, List.set_cons_zero, List.set_cons_succ])); skip
                (refine wpAnyL_one (i := 1) (o := _) (by kernel_rfl) rfl (fun K hK => ?_); clear hHeld; simp only [List.getElem_toArray, List.getElem_cons_zero, List.getElem_cons_succ]; go_simp; (go_at_call 28; (with_reducible refine (NC1.out _).mono ?_); rintro e w3 ⟨_, rfl, ⟨b3, A3, n3, c3, rfl, hv3⟩, hb3⟩; have T3 := hT'.out.drew.below hb3; have R3 := hR'.out.drew.below hb3; have Q3 := hQ'.out.drew.below hb3); refine hK.out _ _ ?_ (fun hHeld => ?_); focus (intro _; exact ⟨T3.bq.at_ 0 rfl, T3.bq.at_ 1 rfl, T3.bb.at_ 0 rfl, T3.bb.at_ 1 rfl, T3.br.at_ 0 rfl, T3.br.at_ 1 rfl⟩)); have hHeld := hHeld (by decide); clear hK K; (try simp only [Act.put, List.setIfInBounds_toArray, List.set_cons_zero, List.set_cons_succ])
                (refine wpAnyL_one (i := 2) (o := _) (by kernel_rfl) rfl (fun K hK => ?_); clear hHeld; simp only [List.getElem_toArray, List.getElem_cons_zero, List.getElem_cons_succ]; go_simp; (go_at_call 53; (with_reducible refine (ADD1.out _ _ Q3.v hv3.v).mono ?_); rintro e w4 ⟨_, rfl, ⟨b4, A4, n4, c4, rfl, hv4⟩, hb4⟩; have T4 := T3.below hb4; have R4 := R3.below hb4); refine hK.out _ _ ?_ (fun hHeld => ?_); focus (intro _; exact ⟨T4.bq.at_ 0 rfl, T4.bq.at_ 1 rfl, T4.bb.at_ 0 rfl, T4.bb.at_ 1 rfl, T4.br.at_ 0 rfl, T4.br.at_ 1 rfl⟩)); have hHeld := hHeld (by decide); clear hK K; (try simp only [Act.put, List.setIfInBounds_toArray, List.set_cons_zero, List.set_cons_succ])
                (refine wpAnyL_one (i := 5) (o := _) (by kernel_rfl) rfl (fun K hK => ?_); clear hHeld; simp only [List.getElem_toArray, List.getElem_cons_zero, List.getElem_cons_succ]; go_simp; (go_at_call 77; (with_reducible refine (SUB1.out _ T4.bw R4.v).mono ?_); rintro e w5 ⟨_, rfl, ⟨b5, A5, n5, c5, rfl, hv5⟩, hb5⟩; have T5 := T4.below hb5; have Q5 := hv4.below hb5); refine hK.out _ _ ?_ (fun hHeld => ?_); focus (intro _; exact ⟨T5.bq.at_ 0 rfl, T5.bq.at_ 1 rfl, T5.bb.at_ 0 rfl, T5.bb.at_ 1 rfl, T5.br.at_ 0 rfl, T5.br.at_ 1 rfl⟩)); have hHeld := hHeld (by decide); clear hK K; (try simp only [Act.put, List.setIfInBounds_toArray, List.set_cons_zero, List.set_cons_succ])
                have q20 := T5.bq.at_ 0 rfl
                have q21 := T5.bq.at_ 1 rfl
                have q30 := T5.br.at_ 0 rfl
                have q31 := T5.br.at_ 1 rfl
                have fq0 := T5.bq.frozen 0
                have fq1 := T5.bq.frozen 1
                have fr0 := T5.br.frozen 0
                have fr1 := T5.br.frozen 1
                have T6 := T5.setQ (.bool b4) (.slice A4 n4 c4)
                have T7 := Lib.hid (T6.setR (.bool b5) (.slice A5 n5 c5))
                have Q7 := Lib.hid (ZL.box (ZL.box Q5 q20 q21 (.bool b4) (.slice A4 n4 c4)) (T6.br.at_ 0 rfl) (T6.br.at_ 1 rfl) (.bool b5) (.slice A5 n5 c5))
                have R7 := Lib.hid (ZL.box (ZL.box hv5.zl q20 q21 (.bool b4) (.slice A4 n4 c4)) (T6.br.at_ 0 rfl) (T6.br.at_ 1 rfl) (.bool b5) (.slice A5 n5 c5))
                clear T3 T4 T5 T6 R3 R4 Q3 Q5 hb3 hb4 hb5 hv3 hv4 hv5
                (refine wpAnyL_one (i := 6) (o := _) (by kernel_rfl) rfl (fun K hK => ?_); clear hHeld; simp only [List.getElem_toArray, List.getElem_cons_zero, List.getElem_cons_succ]; go_simp; refine hK.out _ _ ?_ (fun hHeld => ?_); focus (intro h; exact absurd h (by decide))); clear hK K; (try simp only [Act.put, List.setIfInBounds_toArray, List.set_cons_zero, List.set_cons_succ])
                (refine wpAnyL_one (i := 7) (o := _) (by kernel_rfl) rfl (fun K hK => ?_); clear hHeld; simp only [List.getElem_toArray, List.getElem_cons_zero, List.getElem_cons_succ]; go_simp; refine hK.out _ _ ?_ (fun hHeld => ?_); focus (intro h; exact absurd h (by decide))); clear hK K; (try simp only [Act.put, List.setIfInBounds_toArray, List.set_cons_zero, List.set_cons_succ])
                refine wpAnyL_done (by kernel_rfl) ?_ _
                clear q20 q21 q30 q31 fq0 fq1 fr0 fr1 p00 p81 p70
                cases y
                · have E0 := eu_tf1 h0 HEQ.out.1 HEQ.out.2.1 HEQ.out.2.2.1 HEQ.out.2.2.2 XA.out YA.out hRp
                  have E1 := Lib.hid E0.1
                  have E2 := Lib.hid E0.2
                  clear E0
                  have hqb2 : Hid ((q0 + 1).natAbs < big 1000000) := hqc.out
                  have p00 := T7.out.b0.at_ 0 rfl
                  have p10 := T7.out.b1.at_ 0 rfl
                  have p70 := T7.out.bq.at_ 0 rfl
                  have p71 := T7.out.bq.at_ 1 rfl
                  have p80 := T7.out.br.at_ 0 rfl
                  have p81 := T7.out.br.at_ 1 rfl
                  have p20 := T7.out.b2.at_ 0 rfl
                  have p21 := T7.out.b2.at_ 1 rfl
                  have p30 := T7.out.b3.at_ 0 rfl
                  have p31 := T7.out.b3.at_ 1 rfl
                  have f20 := T7.out.b2.frozen 0
                  have f21 := T7.out.b2.frozen 1
                  have f30 := T7.out.b3.frozen 0
                  have f31 := T7.out.b3.frozen 1
                  have hgg := T7.out.hg
                  go_wp2_with (go_at_call 55; (with_reducible refine (ZNeg_c _ _ _ Q7.out.v hqb2.out).mono ?_); rintro e w9 ⟨_, rfl, ⟨b9, A9, n9, c9, rfl, hv9⟩, hb9⟩; have T9 := T7.out.below hb9; have R9 := R7.out.below hb9; have v0 := T9.bq.at_ 0 rfl; have v1 := T9.bq.at_ 1 rfl; have f0 := T9.bq.frozen 0; have f1 := T9.bq.frozen 1; clear p00 p10 p70 p71 p80 p81 p20 p21 p30 p31 f20 f21 f30 f31)
                  have T10 := Lib.hid (T9.setQ (.bool b9) (.slice A9 n9 c9))
                  have Q10 := Lib.hid (ZL.box hv9 v0 v1 (.bool b9) (.slice A9 n9 c9))
                  have R10 := Lib.hid (ZL.box R9 v0 v1 (.bool b9) (.slice A9 n9 c9))
                  have p70 := T10.out.bq.at_ 0 rfl
                  have p71 := T10.out.bq.at_ 1 rfl
                  have p80 := T10.out.br.at_ 0 rfl
                  have p81 := T10.out.br.at_ 1 rfl
                  have p20 := T10.out.b2.at_ 0 rfl
                  have p21 := T10.out.b2.at_ 1 rfl
                  have p30 := T10.out.b3.at_ 0 rfl
                  have p31 := T10.out.b3.at_ 1 rfl
                  have f20 := T10.out.b2.frozen 0
                  have f21 := T10.out.b2.frozen 1
                  have f30 := T10.out.b3.frozen 0
                  have f31 := T10.out.b3.frozen 1
                  clear T9 R9 v0 v1 f0 f1 hb9 hv9
                  go_region
                  all_goals
                    have Q8 := Lib.hid (ZL.box Q10.out p20 p21 (.bool b9) (.slice A9 n9 c9))
                    have R8 := Lib.hid (ZL.box R10.out p20 p21 (.bool b9) (.slice A9 n9 c9))
                    have B8 := Lib.hid (T10.out.b3.far2 (g' := w.heap.size + 2) (by omega) (.bool b9) (.slice A9 n9 c9))
                    have L8 := Lib.hid (below_set2 T10.out.lo (show w.heap.size ≤ w.heap.size + 2 by omega) (.bool b9) (.slice A9 n9 c9))
                    go_wp2
                    refine bodyPost_ret (v := .tuple #[.agg #[.bool b9, .slice A9 n9 c9], .agg #[.bool b5, .slice A5 n5 c5]]) (by simp [results, Tryz.results56, go_sem, p20, p21, p30, p31]) rfl ?_
                    rw [E1.out, E2.out]
                    exact ⟨_, _, rfl, (ZL.box Q8.out (B8.out.at_ 0 rfl) (B8.out.at_ 1 rfl) _ _).drew.v, (ZL.box R8.out (B8.out.at_ 0 rfl) (B8.out.at_ 1 rfl) _ _).drew.v, (below_set2 (g := w.heap.size + 3) L8.out (by omega) _ _).drew⟩
                · have E0 := eu_tt1 h0 HEQ.out.1 HEQ.out.2.1 HEQ.out.2.2.1 HEQ.out.2.2.2 XA.out YA.out hRp
                  have E1 := Lib.hid E0.1
                  have E2 := Lib.hid E0.2
                  clear E0
                  have hqb2 : Hid ((q0 + 1).natAbs < big 1000000) := hqc.out
                  have p00 := T7.out.b0.at_ 0 rfl
                  have p10 := T7.out.b1.at_ 0 rfl
                  have p70 := T7.out.bq.at_ 0 rfl
                  have p71 := T7.out.bq.at_ 1 rfl
                  have p80 := T7.out.br.at_ 0 rfl
                  have p81 := T7.out.br.at_ 1 rfl
                  have p20 := T7.out.b2.at_ 0 rfl
                  have p21 := T7.out.b2.at_ 1 rfl
                  have p30 := T7.out.b3.at_ 0 rfl
                  have p31 := T7.out.b3.at_ 1 rfl
                  have f20 := T7.out.b2.frozen 0
                  have f21 := T7.out.b2.frozen 1
                  have f30 := T7.out.b3.frozen 0
                  have f31 := T7.out.b3.frozen 1
                  have hgg := T7.out.hg
                  go_wp2
                  go_region
                  all_goals
                    have Q8 := Lib.hid (ZL.box Q7.out p20 p21 (.bool b4) (.slice A4 n4 c4))
                    have R8 := Lib.hid (ZL.box R7.out p20 p21 (.bool b4) (.slice A4 n4 c4))
                    have B8 := Lib.hid (T7.out.b3.far2 (g' := w.heap.size + 2) (by omega) (.bool b4) (.slice A4 n4 c4))
                    have L8 := Lib.hid (below_set2 T7.out.lo (show w.heap.size ≤ w.heap.size + 2 by omega) (.bool b4) (.slice A4 n4 c4))
                    go_wp2
                    refine bodyPost_ret (v := .tuple #[.agg #[.bool b4, .slice A4 n4 c4], .agg #[.bool b5, .slice A5 n5 c5]]) (by simp [results, Tryz.results56, go_sem, p20, p21, p30, p31]) rfl ?_
                    rw [E1.out, E2.out]
                    exact ⟨_, _, rfl, (ZL.box Q8.out (B8.out.at_ 0 rfl) (B8.out.at_ 1 rfl) _ _).drew.v, (ZL.box R8.out (B8.out.at_ 0 rfl) (B8.out.at_ 1 rfl) _ _).drew.v, (below_set2 (g := w.heap.size + 3) L8.out (by omega) _ _).drew⟩
              · obtain rfl : nr = 0 := by omega
                have hRp : ¬ 0 < R := by have := HNR0.out rfl; omega
                cases y
                · have E0 := eu_tf0 h0 HEQ.out.1 HEQ.out.2.1 HEQ.out.2.2.1 HEQ.out.2.2.2 XA.out YA.out hRp
                  have E1 := Lib.hid E0.1
                  have E2 := Lib.hid E0.2
                  clear E0
                  have hqb2 : Hid ((q0).natAbs < big 1000000) := hqb.out
                  have p00 := hT'.out.b0.at_ 0 rfl
                  have p10 := hT'.out.b1.at_ 0 rfl
                  have p70 := hT'.out.bq.at_ 0 rfl
                  have p71 := hT'.out.bq.at_ 1 rfl
                  have p80 := hT'.out.br.at_ 0 rfl
                  have p81 := hT'.out.br.at_ 1 rfl
                  have p20 := hT'.out.b2.at_ 0 rfl
                  have p21 := hT'.out.b2.at_ 1 rfl
                  have p30 := hT'.out.b3.at_ 0 rfl
                  have p31 := hT'.out.b3.at_ 1 rfl
                  have f20 := hT'.out.b2.frozen 0
                  have f21 := hT'.out.b2.frozen 1
                  have f30 := hT'.out.b3.frozen 0
                  have f31 := hT'.out.b3.frozen 1
                  have hgg := hT'.out.hg
                  go_wp2_with (go_at_call 55; (with_reducible refine (ZNeg_c _ _ _ hQ'.out.v hqb2.out).mono ?_); rintro e w9 ⟨_, rfl, ⟨b9, A9, n9, c9, rfl, hv9⟩, hb9⟩; have T9 := hT'.out.below hb9; have R9 := hR'.out.below hb9; have v0 := T9.bq.at_ 0 rfl; have v1 := T9.bq.at_ 1 rfl; have f0 := T9.bq.frozen 0; have f1 := T9.bq.frozen 1; clear p00 p10 p70 p71 p80 p81 p20 p21 p30 p31 f20 f21 f30 f31)
                  have T10 := Lib.hid (T9.setQ (.bool b9) (.slice A9 n9 c9))
                  have Q10 := Lib.hid (ZL.box hv9 v0 v1 (.bool b9) (.slice A9 n9 c9))
                  have R10 := Lib.hid (ZL.box R9 v0 v1 (.bool b9) (.slice A9 n9 c9))
                  have p70 := T10.out.bq.at_ 0 rfl
                  have p71 := T10.out.bq.at_ 1 rfl
                  have p80 := T10.out.br.at_ 0 rfl
                  have p81 := T10.out.br.at_ 1 rfl
                  have p20 := T10.out.b2.at_ 0 rfl
                  have p21 := T10.out.b2.at_ 1 rfl
                  have p30 := T10.out.b3.at_ 0 rfl
                  have p31 := T10.out.b3.at_ 1 rfl
                  have f20 := T10.out.b2.frozen 0
                  have f21 := T10.out.b2.frozen 1
                  have f30 := T10.out.b3.frozen 0
                  have f31 := T10.out.b3.frozen 1
                  clear T9 R9 v0 v1 f0 f1 hb9 hv9
                  go_region
                  all_goals
                    have Q8 := Lib.hid (ZL.box Q10.out p20 p21 (.bool b9) (.slice A9 n9 c9))
                    have R8 := Lib.hid (ZL.box R10.out p20 p21 (.bool b9) (.slice A9 n9 c9))
                    have B8 := Lib.hid (T10.out.b3.far2 (g' := w.heap.size + 2) (by omega) (.bool b9) (.slice A9 n9 c9))
                    have L8 := Lib.hid (below_set2 T10.out.lo (show w.heap.size ≤ w.heap.size + 2 by omega) (.bool b9) (.slice A9 n9 c9))
                    go_wp2
                    refine bodyPost_ret (v := .tuple #[.agg #[.bool b9, .slice A9 n9 c9], .agg #[.bool br, .slice Ar 0 cr]]) (by simp [results, Tryz.results56, go_sem, p20, p21, p30, p31]) rfl ?_
                    rw [E1.out, E2.out]
                    exact ⟨_, _, rfl, (ZL.box Q8.out (B8.out.at_ 0 rfl) (B8.out.at_ 1 rfl) _ _).drew.v, (ZL.box R8.out (B8.out.at_ 0 rfl) (B8.out.at_ 1 rfl) _ _).drew.v, (below_set2 (g := w.heap.size + 3) L8.out (by omega) _ _).drew⟩
                · have E0 := eu_tt0 h0 HEQ.out.1 HEQ.out.2.1 HEQ.out.2.2.1 HEQ.out.2.2.2 XA.out YA.out hRp
                  have E1 := Lib.hid E0.1
                  have E2 := Lib.hid E0.2
                  clear E0
                  have hqb2 : Hid ((q0).natAbs < big 1000000) := hqb.out
                  have p00 := hT'.out.b0.at_ 0 rfl
                  have p10 := hT'.out.b1.at_ 0 rfl
                  have p70 := hT'.out.bq.at_ 0 rfl
                  have p71 := hT'.out.bq.at_ 1 rfl
                  have p80 := hT'.out.br.at_ 0 rfl
                  have p81 := hT'.out.br.at_ 1 rfl
                  have p20 := hT'.out.b2.at_ 0 rfl
                  have p21 := hT'.out.b2.at_ 1 rfl
                  have p30 := hT'.out.b3.at_ 0 rfl
                  have p31 := hT'.out.b3.at_ 1 rfl
                  have f20 := hT'.out.b2.frozen 0
                  have f21 := hT'.out.b2.frozen 1
                  have f30 := hT'.out.b3.frozen 0
                  have f31 := hT'.out.b3.frozen 1
                  have hgg := hT'.out.hg
                  go_wp2
                  go_region
                  all_goals
                    have Q8 := Lib.hid (ZL.box hQ'.out p20 p21 (.bool bq) (.slice Aq nq cq))
                    have R8 := Lib.hid (ZL.box hR'.out p20 p21 (.bool bq) (.slice Aq nq cq))
                    have B8 := Lib.hid (hT'.out.b3.far2 (g' := w.heap.size + 2) (by omega) (.bool bq) (.slice Aq nq cq))
                    have L8 := Lib.hid (below_set2 hT'.out.lo (show w.heap.size ≤ w.heap.size + 2 by omega) (.bool bq) (.slice Aq nq cq))
                    go_wp2
                    refine bodyPost_ret (v := .tuple #[.agg #[.bool bq, .slice Aq nq cq], .agg #[.bool br, .slice Ar 0 cr]]) (by simp [results, Tryz.results56, go_sem, p20, p21, p30, p31]) rfl ?_
                    rw [E1.out, E2.out]
                    exact ⟨_, _, rfl, (ZL.box Q8.out (B8.out.at_ 0 rfl) (B8.out.at_ 1 rfl) _ _).drew.v, (ZL.box R8.out (B8.out.at_ 0 rfl) (B8.out.at_ 1 rfl) _ _).drew.v, (below_set2 (g := w.heap.size + 3) L8.out (by omega) _ _).drew⟩
end ZC
end Go.Proofs.YtelblhgagpkjmaaGreatDoor

/-
  The reference's whole numbers: the sign.
-/
namespace Go.Proofs.YtelblhgagpkjmaaGreatDoor
set_option linter.unusedVariables false
set_option linter.unusedSimpArgs false
open Go.RowKit
set_option linter.unusedVariables false
namespace ZC
open Z
end ZC
end Go.Proofs.YtelblhgagpkjmaaGreatDoor

/-
  The reference's numbers over a power of two: QMake.
-/
namespace Go.Proofs.YtelblhgagpkjmaaGreatDoor
set_option linter.unusedVariables false
set_option linter.unusedSimpArgs false
open Go.RowKit
set_option linter.unusedVariables false
set_option linter.unusedSimpArgs false
namespace QC
open Z (Nz Tz cmpv big)
open ZC
/-- digits that lie in another block than the one written -/
def Off (g : Nat) (A : Option Addr) (n : Nat) : Prop := n = 0 ∨ ∃ ad, A = some ad ∧ ad.block ≠ g
theorem zl_far {w : World} {b A n c z} (h : ZL w b A n c z) {p : Addr} (hp : Off p.block A n) (x : Value) : ZL (w.setCell p x) b A n c z := by
  obtain ⟨hb, L, hn, ⟨A', c', e, hc, hr⟩, h2⟩ := h
  injection e with e1 e2 e3
  subst e1
  subst e3
  refine ⟨hb, L, hn, ⟨A, c, by rw [e2], hc, ?_⟩, h2⟩
  rcases hr with h0 | ⟨ad, rfl, hlt, hcell⟩
  · exact .inl h0
  · by_cases h0 : L = []
    · exact .inl h0
    · rcases hp with hp | ⟨ad', ea, hne⟩
      · exfalso; exact h0 (List.length_eq_zero_iff.1 (by rw [← hn]; exact hp))
      · injection ea with ea
        subst ea
        refine .inr ⟨ad, rfl, by simpa [World.setCell] using hlt, fun j hj => ?_⟩
        rw [World.cell?_setCell_other w p (ad.add j) x (by intro e; apply hne; rw [e, block_of_add])]
        exact hcell j hj
theorem off_new {B : Nat} {A : Option Addr} {n : Nat} (h : Fr B A n) {g : Nat} (hg : g < B) : Off g A n := by
  rcases h with h | ⟨ad, rfl, h⟩
  · exact .inl h
  · exact .inr ⟨ad, rfl, by omega⟩
/-- a number over 2^t in memory -/
def QV (w : World) (v : Value) (z t : Int) : Prop := ∃ b A n c, v = .agg #[.bool b, .slice A n c, .int .i64 t] ∧ ZL w b A n c z
def RetV (w : World) (z t : Int) (e : Ending) (w' : World) : Prop := ∃ b A n c, e = .returned (.agg #[.bool b, .slice A n c, .int .i64 t]) ∧ ZL w' b A n c z ∧ Below w.heap.size w w'
theorem set3 {w : World} {b A n c z} {g : Nat} (h : ZL w b A n c z) (hp : Off g A n) (v0 v1 v2 : Value) : ZL (((w.setCell ⟨g, 0, none⟩ v0).setCell ⟨g, 1, none⟩ v1).setCell ⟨g, 2, none⟩ v2) b A n c z :=
  zl_far (zl_far (zl_far h (p := ⟨g, 0, none⟩) hp v0) (p := ⟨g, 1, none⟩) hp v1) (p := ⟨g, 2, none⟩) hp v2
theorem below3q {w w1 : World} {B : Nat} (hb : Below w.heap.size w w1) (hB : w.heap.size ≤ B) (v0 v1 v2 : Value) : Below w.heap.size w (((w1.setCell ⟨B, 0, none⟩ v0).setCell ⟨B, 1, none⟩ v1).setCell ⟨B, 2, none⟩ v2) :=
  ((hb.setCell hB _).setCell hB _).setCell hB _
set_option maxRecDepth 100000 in
theorem QMake_up (va : Value) (a : Int) (k : Nat) (w : World) (ha : ZV w va a) (bA : a.natAbs < big 1000000) (hk : k ≤ 100000) : Calls Tryz.prog 27 #[va, .int .i64 k] w (RetV w (a * 2 ^ k) 0) := by
  obtain ⟨b, A, n, c, rfl, hv⟩ := ha
  have N := new2 w 39 41 #[.bool b, .slice A n c] #[.bool false, .slice none 0 0, .int .i64 0] 0
  obtain ⟨N1, N2, NS, D0⟩ := N
  rw [World.drewN_zero] at N1 N2 NS D0
  obtain ⟨W0, hW0⟩ : ∃ W0, (w.alloc (.cells #[.bool b, .slice A n c] 39)).alloc (.cells #[.bool false, .slice none 0 0, .int .i64 0] 41) = W0 := ⟨_, rfl⟩
  rw [hW0] at N1 N2 NS D0
  have KC : Hid (∀ W, Below W0.heap.size W0 W → W.cell? ⟨w.heap.size, 0, none⟩ = some (.bool b) ∧ W.cell? ⟨w.heap.size, 1, none⟩ = some (.slice A n c)) := fun W h => ⟨(N1.below h N1.lt).at_ 0 rfl, (N1.below h N1.lt).at_ 1 rfl⟩
  have KR : Hid (∀ W, Below W0.heap.size W0 W → Blk W (w.heap.size + 1) 41 #[.bool false, .slice none 0 0, .int .i64 0]) := fun W h => N2.below h N2.lt
  have VA : Hid (∀ W, Below W0.heap.size W0 W → ZV W (.agg #[.bool b, .slice A n c]) a) := fun W h => (((hv.below D0).below h)).v
  have PW : Hid (∀ W : World, Calls Tryz.prog 36 #[.int .i64 k] W (RetZ W (2 ^ k))) := fun W => by
    have := ZPow_c k (k : Int) W (by omega) (by simp) (by omega)
    simpa using this
  have MU : Hid (∀ (W : World) (u v : Value), ZV W u a → ZV W v (2 ^ k) → Calls Tryz.prog 54 #[u, v] W (RetZ W (a * 2 ^ k))) := fun W u v h1 h2 => ZMul_c u v _ _ W h1 h2 bA (pow2_big k (by omega))
  have HS : Hid (W0.heap.size = w.heap.size + 2) := NS
  have HW0 := Lib.hid hW0
  have D0 := Lib.hid D0
  generalize a * 2 ^ k = r at *
  generalize (2 : Int) ^ k = pk at *
  have hk0 : (0 : Int) ≤ k := by omega
  obtain ⟨K, hK⟩ : ∃ K : Int, (k : Int) = K := ⟨_, rfl⟩
  rw [hK] at PW hk0 ⊢
  clear N1 N2 NS hv bA hk hK hW0
  go_enter Tryz.func27, Tryz.ntmps27
  go_upto_region 2 with fail
  rw [HW0.out]
  have D : Below W0.heap.size W0 W0.drew := (Below.refl _ _).drew
  (refine wp_region_L (S := fun w' => w'.cell? ⟨w.heap.size, 0, none⟩ = some (.bool b) ∧ w'.cell? ⟨w.heap.size, 1, none⟩ = some (.slice A n c)) (nl := 1000000) (by kernel_rfl) ?_ (fun hHeld => ?_); focus (exact KC.out _ D))
  (refine wpAnyL_take (i := 0) (oi := _) (v := ?_) rfl (by kernel_rfl) (by kernel_rfl) (by kernel_rfl) (fun _ _ _ h => h) (Or.inl ⟨by first | rfl | kernel_rfl, ?hy26⟩) (by assumption) ?rs26; (case hy26 => (intro w hSw; (try dsimp only at hSw); go_simp; first | done | with_reducible rfl)); case' rs26 => (simp only [List.getElem_toArray, List.getElem_cons_zero, List.getElem_cons_succ, Act.put, List.setIfInBounds_toArray, List.set_cons_zero, List.set_cons_succ])); (refine wpAnyL_take (i := 1) (oi := _) (v := ?_) rfl (by kernel_rfl) (by kernel_rfl) (by kernel_rfl) (fun _ _ _ h => h) (Or.inl ⟨by first | rfl | kernel_rfl, ?hy27⟩) (by assumption) ?rs27; (case hy27 => (intro w hSw; (try dsimp only at hSw); go_simp; first | done | with_reducible rfl)); case' rs27 => (simp only [List.getElem_toArray, List.getElem_cons_zero, List.getElem_cons_succ, Act.put, List.setIfInBounds_toArray, List.set_cons_zero, List.set_cons_succ])); skip
  (refine wpAnyL_one (i := 2) (o := _) (by kernel_rfl) rfl (fun K hK => ?_); clear hHeld; simp only [List.getElem_toArray, List.getElem_cons_zero, List.getElem_cons_succ]; go_simp; (go_at_call 36; (with_reducible refine (PW.out _).mono ?_); rintro e w1 ⟨_, rfl, ⟨b1, A1, n1, c1, rfl, hp⟩, hb⟩; have D := D.trans (hb.mono D.size)); refine hK.out _ _ ?_ (fun hHeld => ?_); focus (intro _; exact KC.out _ D)); have hHeld := hHeld (by decide); clear hK K; (try simp only [Act.put, List.setIfInBounds_toArray, List.set_cons_zero, List.set_cons_succ])
  (refine wpAnyL_one (i := 3) (o := _) (by kernel_rfl) rfl (fun K hK => ?_); clear hHeld; simp only [List.getElem_toArray, List.getElem_cons_zero, List.getElem_cons_succ]; go_simp; (go_at_call 54; (with_reducible refine (MU.out _ _ _ (VA.out _ D) hp.v).mono ?_); rintro e w2 ⟨_, rfl, ⟨b2, A2, n2, c2, rfl, hr⟩, hb2⟩; have D1 := D.size; have D := D.trans (hb2.mono D.size)); refine hK.out _ _ ?_ (fun hHeld => ?_); focus (intro _; exact KC.out _ D)); have hHeld := hHeld (by decide); clear hK K; (try simp only [Act.put, List.setIfInBounds_toArray, List.set_cons_zero, List.set_cons_succ])
  (refine wpAnyL_take (i := 4) (oi := _) (v := ?_) rfl (by kernel_rfl) (by kernel_rfl) (by kernel_rfl) (fun _ _ _ h => h) (Or.inl ⟨by first | rfl | kernel_rfl, ?hy28⟩) (by assumption) ?rs28; (case hy28 => (intro w hSw; (try dsimp only at hSw); go_simp; first | done | with_reducible rfl)); case' rs28 => (simp only [List.getElem_toArray, List.getElem_cons_zero, List.getElem_cons_succ, Act.put, List.setIfInBounds_toArray, List.set_cons_zero, List.set_cons_succ])); skip
  have R := KR.out _ D
  have of := off_new hr.fr (g := w.heap.size + 1) (by have := HS.out; omega)
  have f0 := R.frozen 0; have f1 := R.frozen 1; have f2 := R.frozen 2; have t0 := R.at_ 0 rfl; have t1 := R.at_ 1 rfl; have t2 := R.at_ 2 rfl
  have X := Lib.hid (set3 hr.zl of (.bool b2) (.slice A2 n2 c2) (.int .i64 0))
  have hS := KC.out _ D
  have D := Lib.hid D
  (refine wpAnyL_one (i := 5) (o := _) (by kernel_rfl) rfl (fun K hK => ?_); clear hHeld; simp only [List.getElem_toArray, List.getElem_cons_zero, List.getElem_cons_succ]; go_simp; refine hK.out _ _ ?_ (fun hHeld => ?_); focus (intro _; (obtain ⟨s0, s1⟩ := KC.out _ D.out; refine ⟨?_, ?_⟩ <;> (repeat rw [World.cell?_setCell_other _ _ _ _ (by simp)]) <;> assumption))); have hHeld := hHeld (by decide); clear hK K; (try simp only [Act.put, List.setIfInBounds_toArray, List.set_cons_zero, List.set_cons_succ])
  refine wpAnyL_done (by kernel_rfl) ?_ _
  go_wp2
  exact bodyPost_ret (v := .agg #[.bool b2, .slice A2 n2 c2, .int .i64 0]) (by simp [results, Tryz.results27, go_sem, t0, t1, t2]) rfl
    ⟨_, _, _, _, rfl, X.out, below3q (D0.out.trans (D.out.mono D0.out.size)) (by omega) _ _ _⟩
end QC
end Go.Proofs.YtelblhgagpkjmaaGreatDoor

/-
  The reference's numbers over a power of two: QMake, QMul, QShift.
-/
namespace Go.Proofs.YtelblhgagpkjmaaGreatDoor
set_option linter.unusedVariables false
set_option linter.unusedSimpArgs false
open Go.RowKit
set_option linter.unusedVariables false
set_option linter.unusedSimpArgs false
namespace QC
open Z (Nz Tz cmpv big)
open ZC
theorem al2 (W : World) (o : Obj) : Below W.heap.size W (W.alloc o) := (Below.refl _ _).alloc (Nat.le_refl _) _
theorem QMake_dn (va : Value) (a e : Int) (w : World) (ha : ZV w va a) (h0 : e < 0) (h1 : -100000 ≤ e) : Calls Tryz.prog 27 #[va, .int .i64 e] w (RetV w a (-e)) := by
  obtain ⟨b, A, n, c, rfl, hv⟩ := ha
  have i1 : IntKind.i64.wrap (-e) = -e := IntWalk.i64_in _ (by omega)
  have h2 : ¬ 0 ≤ e := by omega
  have X := (hv.alloc (.cells #[.bool b, .slice A n c] 39)).alloc (.cells #[.bool b, .slice A n c, .int .i64 (-e)] 41)
  have D : Below w.heap.size w ((w.alloc (.cells #[.bool b, .slice A n c] 39)).alloc (.cells #[.bool b, .slice A n c, .int .i64 (-e)] 41)) := ((Below.refl _ _).alloc (Nat.le_refl _) _).alloc (by simp) _
  have X := Lib.hid X
  clear hv h0 h1
  go_enter Tryz.func27, Tryz.ntmps27
  go_wp2
  exact bodyPost_ret (v := .agg #[.bool b, .slice A n c, .int .i64 (-e)]) (by simp [results, Tryz.results27, go_sem]) rfl ⟨_, _, _, _, rfl, X.out, D⟩
/-- what QMake makes -/
def mkz (a e : Int) : Int := if 0 ≤ e then a * 2 ^ e.toNat else a
def mkt (e : Int) : Int := if 0 ≤ e then 0 else -e
theorem QMake_c (va : Value) (a e : Int) (w : World) (ha : ZV w va a) (bA : a.natAbs < big 1000000) (h1 : -100000 ≤ e) (h2 : e ≤ 100000) : Calls Tryz.prog 27 #[va, .int .i64 e] w (RetV w (mkz a e) (mkt e)) := by
  unfold mkz mkt
  by_cases h0 : 0 ≤ e
  · rw [if_pos h0, if_pos h0]
    obtain ⟨k, rfl⟩ := Int.eq_ofNat_of_zero_le h0
    exact QMake_up va a k w ha bA (by omega)
  · rw [if_neg h0, if_neg h0]
    exact QMake_dn va a e w ha (by omega) h1
/-- behind the box of a number over 2^t and the result's cell -/
theorem qbox1 (w : World) (b1 : Bool) (A1 : Option Addr) (n1 c1 : Nat) (t1 : Int) :
    ∃ W0, (w.alloc (.cells #[.bool b1, .slice A1 n1 c1, .int .i64 t1] 41)).alloc (.cells #[.bool false, .slice none 0 0, .int .i64 0] 41) = W0 ∧ Below w.heap.size w W0 ∧ W0.heap.size = w.heap.size + 2 ∧
    (∀ W, Below W0.heap.size W0 W → (W.cell? ⟨w.heap.size, 0, none⟩ = some (.bool b1) ∧ W.cell? ⟨w.heap.size, 1, none⟩ = some (.slice A1 n1 c1) ∧ W.cell? ⟨w.heap.size, 2, none⟩ = some (.int .i64 t1)) ∧ Blk W (w.heap.size + 1) 41 #[.bool false, .slice none 0 0, .int .i64 0]) := by
  obtain ⟨N1, N2, NS, NB⟩ := new2 w 41 41 #[.bool b1, .slice A1 n1 c1, .int .i64 t1] #[.bool false, .slice none 0 0, .int .i64 0] 0
  rw [World.drewN_zero] at N1 N2 NS NB
  exact ⟨_, rfl, NB, NS, fun W h => ⟨⟨(N1.below h N1.lt).at_ 0 rfl, (N1.below h N1.lt).at_ 1 rfl, (N1.below h N1.lt).at_ 2 rfl⟩, N2.below h N2.lt⟩⟩
theorem qbox2 (w : World) (b1 b2 : Bool) (A1 A2 : Option Addr) (n1 c1 n2 c2 : Nat) (t1 t2 : Int) :
    ∃ W0, ((w.alloc (.cells #[.bool b1, .slice A1 n1 c1, .int .i64 t1] 41)).alloc (.cells #[.bool b2, .slice A2 n2 c2, .int .i64 t2] 41)).alloc (.cells #[.bool false, .slice none 0 0, .int .i64 0] 41) = W0 ∧ Below w.heap.size w W0 ∧ W0.heap.size = w.heap.size + 3 ∧
    (∀ W, Below W0.heap.size W0 W → (W.cell? ⟨w.heap.size, 0, none⟩ = some (.bool b1) ∧ W.cell? ⟨w.heap.size, 1, none⟩ = some (.slice A1 n1 c1) ∧ W.cell? ⟨w.heap.size, 2, none⟩ = some (.int .i64 t1) ∧
      W.cell? ⟨w.heap.size + 1, 0, none⟩ = some (.bool b2) ∧ W.cell? ⟨w.heap.size + 1, 1, none⟩ = some (.slice A2 n2 c2) ∧ W.cell? ⟨w.heap.size + 1, 2, none⟩ = some (.int .i64 t2)) ∧ Blk W (w.heap.size + 2) 41 #[.bool false, .slice none 0 0, .int .i64 0]) := by
  obtain ⟨N1, N2, N3, NS, NB⟩ := new3 w 41 41 41 #[.bool b1, .slice A1 n1 c1, .int .i64 t1] #[.bool b2, .slice A2 n2 c2, .int .i64 t2] #[.bool false, .slice none 0 0, .int .i64 0] 0
  rw [World.drewN_zero] at N1 N2 N3 NS NB
  exact ⟨_, rfl, NB, NS, fun W h => ⟨⟨(N1.below h N1.lt).at_ 0 rfl, (N1.below h N1.lt).at_ 1 rfl, (N1.below h N1.lt).at_ 2 rfl, (N2.below h N2.lt).at_ 0 rfl, (N2.below h N2.lt).at_ 1 rfl, (N2.below h N2.lt).at_ 2 rfl⟩, N3.below h N3.lt⟩⟩
end QC
end Go.Proofs.YtelblhgagpkjmaaGreatDoor

/-
  The reference's numbers over a power of two: level, its first steps.
-/
namespace Go.Proofs.YtelblhgagpkjmaaGreatDoor
set_option linter.unusedVariables false
set_option linter.unusedSimpArgs false
open Go.RowKit
set_option linter.unusedVariables false
set_option linter.unusedSimpArgs false
namespace QC
open Z (Nz Tz cmpv big)
open ZC
/-- two whole numbers, each in its own new box -/
def LV (W0 wx : World) (s8 s9 : Value) (x y : Int) : Prop := ∃ g h bx Ax nx cx by' Ay ny cy, s8 = .pointer (some ⟨g, 0, none⟩) ∧ s9 = .pointer (some ⟨h, 0, none⟩) ∧ Blk wx g 39 #[.bool bx, .slice Ax nx cx] ∧ Blk wx h 39 #[.bool by', .slice Ay ny cy] ∧
  ZL wx bx Ax nx cx x ∧ ZL wx by' Ay ny cy y ∧ g ≠ h ∧ W0.heap.size ≤ g ∧ W0.heap.size ≤ h ∧ Below W0.heap.size W0 wx
theorem lv_set {we W : World} {g h : Nat} {bq br : Bool} {Aq Ar : Option Addr} {nq cq nr cr : Nat} {q r : Int} (D : Below we.heap.size we W) (hg : we.heap.size ≤ g) (hh : we.heap.size ≤ h) (hne : g ≠ h)
    (G : Blk W g 39 #[.bool false, .slice none 0 0]) (H : Blk W h 39 #[.bool false, .slice none 0 0]) (hq : ZL W bq Aq nq cq q) (hr : ZL W br Ar nr cr r) :
    LV we ((((W.setCell ⟨g, 0, none⟩ (.bool bq)).setCell ⟨g, 1, none⟩ (.slice Aq nq cq)).setCell ⟨h, 0, none⟩ (.bool br)).setCell ⟨h, 1, none⟩ (.slice Ar nr cr)) (.pointer (some ⟨g, 0, none⟩)) (.pointer (some ⟨h, 0, none⟩)) q r := by
  have G1 := G.set2 (.bool bq) (.slice Aq nq cq)
  have H1 := H.far2 (Ne.symm hne) (.bool bq) (.slice Aq nq cq)
  have q1 := ZC.ZL.box hq (G.at_ 0 rfl) (G.at_ 1 rfl) (.bool bq) (.slice Aq nq cq)
  have r1 := ZC.ZL.box hr (G.at_ 0 rfl) (G.at_ 1 rfl) (.bool bq) (.slice Aq nq cq)
  exact ⟨g, h, bq, Aq, nq, cq, br, Ar, nr, cr, rfl, rfl, G1.far2 hne _ _, H1.set2 _ _, ZC.ZL.box q1 (H1.at_ 0 rfl) (H1.at_ 1 rfl) _ _, ZC.ZL.box r1 (H1.at_ 0 rfl) (H1.at_ 1 rfl) _ _, hne, hg, hh, below_set2 (below_set2 D hg _ _) hh _ _⟩
/-- behind two boxes and the two cells of the result -/
theorem lbox (w : World) (b1 b2 : Bool) (A1 A2 : Option Addr) (n1 c1 n2 c2 : Nat) (t1 t2 : Int) :
    ∃ W0, (((w.alloc (.cells #[.bool b1, .slice A1 n1 c1, .int .i64 t1] 41)).alloc (.cells #[.bool b2, .slice A2 n2 c2, .int .i64 t2] 41)).alloc (.cells #[.bool false, .slice none 0 0] 39)).alloc (.cells #[.bool false, .slice none 0 0] 39) = W0 ∧ Below w.heap.size w W0 ∧ W0.heap.size = w.heap.size + 4 ∧
    (∀ W, Below W0.heap.size W0 W → (W.cell? ⟨w.heap.size, 0, none⟩ = some (.bool b1) ∧ W.cell? ⟨w.heap.size, 1, none⟩ = some (.slice A1 n1 c1) ∧ W.cell? ⟨w.heap.size, 2, none⟩ = some (.int .i64 t1) ∧
      W.cell? ⟨w.heap.size + 1, 0, none⟩ = some (.bool b2) ∧ W.cell? ⟨w.heap.size + 1, 1, none⟩ = some (.slice A2 n2 c2) ∧ W.cell? ⟨w.heap.size + 1, 2, none⟩ = some (.int .i64 t2)) ∧
      Blk W (w.heap.size + 2) 39 #[.bool false, .slice none 0 0] ∧ Blk W (w.heap.size + 3) 39 #[.bool false, .slice none 0 0]) := by
  obtain ⟨N1, N2, N3, NS, NB⟩ := new3 w 41 41 39 #[.bool b1, .slice A1 n1 c1, .int .i64 t1] #[.bool b2, .slice A2 n2 c2, .int .i64 t2] #[.bool false, .slice none 0 0] 0
  rw [World.drewN_zero] at N1 N2 N3 NS NB
  generalize ((w.alloc (.cells #[.bool b1, .slice A1 n1 c1, .int .i64 t1] 41)).alloc (.cells #[.bool b2, .slice A2 n2 c2, .int .i64 t2] 41)).alloc (.cells #[.bool false, .slice none 0 0] 39) = W3 at *
  have N1 := N1.alloc (.cells #[.bool false, .slice none 0 0] 39)
  have N2 := N2.alloc (.cells #[.bool false, .slice none 0 0] 39)
  have N3 := N3.alloc (.cells #[.bool false, .slice none 0 0] 39)
  have N4 := Blk.new W3 39 #[.bool false, .slice none 0 0]
  rw [NS] at N4
  refine ⟨_, rfl, NB.alloc (by omega) _, by simp [NS], fun W h => ⟨⟨(N1.below h N1.lt).at_ 0 rfl, (N1.below h N1.lt).at_ 1 rfl, (N1.below h N1.lt).at_ 2 rfl, (N2.below h N2.lt).at_ 0 rfl, (N2.below h N2.lt).at_ 1 rfl, (N2.below h N2.lt).at_ 2 rfl⟩, N3.below h N3.lt, N4.below h N4.lt⟩⟩
theorem big_mono {m n : Nat} (h : m ≤ n) : big m ≤ big n := by unfold big; exact Nat.pow_le_pow_right (by omega) h
theorem big_lt {a : Int} (h : a.natAbs < big 500000) : a.natAbs < big 1000000 := Nat.lt_of_lt_of_le h (big_mono (by omega))
def RetLv (w : World) (x y t : Int) (e : Ending) (w' : World) : Prop := ∃ bx Ax nx cx by' Ay ny cy, e = .returned (.tuple #[.agg #[.bool bx, .slice Ax nx cx], .agg #[.bool by', .slice Ay ny cy], .int .i64 t]) ∧ ZL w' bx Ax nx cx x ∧ ZL w' by' Ay ny cy y ∧ Below w.heap.size w w'
set_option maxRecDepth 100000 in
set_option maxHeartbeats 4000000 in
theorem level_c (va vb : Value) (a b ta tb : Int) (w : World) (ha : QV w va a ta) (hb : QV w vb b tb) (bA : a.natAbs < big 500000) (bB : b.natAbs < big 500000) (h1 : 0 ≤ ta ∧ ta ≤ 100000) (h2 : 0 ≤ tb ∧ tb ≤ 100000) :
    Calls Tryz.prog 39 #[va, vb] w (RetLv w (a * 2 ^ (max ta tb - ta).toNat) (b * 2 ^ (max ta tb - tb).toNat) (max ta tb)) := by
  obtain ⟨b1, A1, n1, c1, rfl, hv1⟩ := ha
  obtain ⟨b2, A2, n2, c2, rfl, hv2⟩ := hb
  obtain ⟨W0, hW0, D0, HS, KB⟩ := lbox w b1 b2 A1 A2 n1 c1 n2 c2 ta tb
  have VA : Hid (∀ W, Below W0.heap.size W0 W → ZL W b1 A1 n1 c1 a ∧ ZL W b2 A2 n2 c2 b) := fun W h => ⟨(hv1.below D0).below h, (hv2.below D0).below h⟩
  have HS2 := Lib.hid HS
  clear HS
  have HW0 := Lib.hid hW0
  have D0 := Lib.hid D0
  have KB := Lib.hid KB
  clear hv1 hv2 hW0
  go_enter Tryz.func39, Tryz.ntmps39
  go_upto_region 2 with fail
  rw [HW0.out]
  generalize hT : (if ta < tb then tb else ta) = T
  have HT := Lib.hid hT
  clear hT
  go_cut [8, 9] (fun s8 s9 wx => LV W0 wx s8 s9 a b)
  case first =>
    have D : Below W0.heap.size W0 W0.drew := (Below.refl _ _).drew
    (refine wp_region_L (S := fun w' => w'.cell? ⟨w.heap.size, 0, none⟩ = some (.bool b1) ∧ w'.cell? ⟨w.heap.size, 1, none⟩ = some (.slice A1 n1 c1) ∧ w'.cell? ⟨w.heap.size, 2, none⟩ = some (.int .i64 ta) ∧ w'.cell? ⟨w.heap.size + 1, 0, none⟩ = some (.bool b2) ∧ w'.cell? ⟨w.heap.size + 1, 1, none⟩ = some (.slice A2 n2 c2) ∧ w'.cell? ⟨w.heap.size + 1, 2, none⟩ = some (.int .i64 tb)) (nl := 1000000) (by kernel_rfl) ?_ (fun hHeld => ?_); focus (exact (KB.out _ D).1))
    (refine wpAnyL_take (i := 0) (oi := _) (v := ?_) rfl (by kernel_rfl) (by kernel_rfl) (by kernel_rfl) (fun _ _ _ h => h) (Or.inl ⟨by first | rfl | kernel_rfl, ?hy39⟩) (by assumption) ?rs39; (case hy39 => (intro w hSw; (try dsimp only at hSw); go_simp; first | done | with_reducible rfl)); case' rs39 => (simp only [List.getElem_toArray, List.getElem_cons_zero, List.getElem_cons_succ, Act.put, List.setIfInBounds_toArray, List.set_cons_zero, List.set_cons_succ])); (refine wpAnyL_take (i := 1) (oi := _) (v := ?_) rfl (by kernel_rfl) (by kernel_rfl) (by kernel_rfl) (fun _ _ _ h => h) (Or.inl ⟨by first | rfl | kernel_rfl, ?hy40⟩) (by assumption) ?rs40; (case hy40 => (intro w hSw; (try dsimp only at hSw); go_simp; first | done | with_reducible rfl)); case' rs40 => (simp only [List.getElem_toArray, List.getElem_cons_zero, List.getElem_cons_succ, Act.put, List.setIfInBounds_toArray, List.set_cons_zero, List.set_cons_succ])); (refine wpAnyL_take (i := 2) (oi := _) (v := ?_) rfl (by kernel_rfl) (by kernel_rfl) (by kernel_rfl) (fun _ _ _ h => h) (Or.inl ⟨by first | rfl | kernel_rfl, ?hy41⟩) (by assumption) ?rs41; (case hy41 => (intro w hSw; (try dsimp only at hSw); go_simp; first | done | with_reducible rfl)); case' rs41 => (simp only [List.getElem_toArray, List.getElem_cons_zero, List.getElem_cons_succ, Act.put, List.setIfInBounds_toArray, List.set_cons_zero, List.set_cons_succ])); (refine wpAnyL_take (i := 3) (oi := _) (v := ?_) rfl (by kernel_rfl) (by kernel_rfl) (by kernel_rfl) (fun _ _ _ h => h) (Or.inl ⟨by first | rfl | kernel_rfl, ?hy42⟩) (by assumption) ?rs42; (case hy42 => (intro w hSw; (try dsimp only at hSw); go_simp; first | done | with_reducible rfl)); case' rs42 => (simp only [List.getElem_toArray, List.getElem_cons_zero, List.getElem_cons_succ, Act.put, List.setIfInBounds_toArray, List.set_cons_zero, List.set_cons_succ])); skip
    refine wpAnyL_two (i := 4) (j := 5) (oi := _) (oj := _) (by kernel_rfl) rfl rfl (fun K hK => ?_) (fun K hK => ?_)
    · as_aux_lemma =>
        (clear hHeld; simp only [List.getElem_toArray, List.getElem_cons_zero, List.getElem_cons_succ]; go_simp; refine hK.out _ _ ?_ (fun hHeld => ?_); focus (intro _; exact (KB.out _ (D.alloc D.size _)).1)); have hHeld := hHeld (by decide); clear hK K; (try simp only [Act.put, List.setIfInBounds_toArray, List.set_cons_zero, List.set_cons_succ])
        have G' := Blk.drew (Blk.new W0 39 #[.bool false, .slice none 0 0])
        have Gn : W0.heap.size ≤ W0.heap.size := Nat.le_refl _
        have D1 : Below W0.heap.size W0 ((W0.alloc (.cells #[.bool false, .slice none 0 0] 39)).drew) := D.alloc D.size (.cells #[.bool false, .slice none 0 0] 39)
        clear D
        have D := D1
        clear D1
        obtain ⟨w4, hw4⟩ : ∃ w4, (W0.alloc (.cells #[.bool false, .slice none 0 0] 39)).drew = w4 := ⟨_, rfl⟩
        obtain ⟨Gg, hGg⟩ : ∃ Gg, W0.heap.size = Gg := ⟨_, rfl⟩
        rw [hw4] at G' D hHeld ⊢
        rw [hGg] at G' ⊢
        have Gn : W0.heap.size ≤ Gg := by rw [← hGg]; exact Gn
        have G := G'
        clear G' hw4 hGg
        (refine wpAnyL_one (i := 5) (o := _) (by kernel_rfl) rfl (fun K hK => ?_); clear hHeld; simp only [List.getElem_toArray, List.getElem_cons_zero, List.getElem_cons_succ]; go_simp; refine hK.out _ _ ?_ (fun hHeld => ?_); focus (intro _; exact (KB.out _ (D.alloc D.size _)).1)); have hHeld := hHeld (by decide); clear hK K; (try simp only [Act.put, List.setIfInBounds_toArray, List.set_cons_zero, List.set_cons_succ])
        have H' := Blk.new w4 39 #[.bool false, .slice none 0 0]
        have Hn : W0.heap.size ≤ w4.heap.size := D.size
        have hne : Gg ≠ w4.heap.size := Nat.ne_of_lt G.lt
        have G := G.alloc (.cells #[.bool false, .slice none 0 0] 39)
        have D1 : Below W0.heap.size W0 (w4.alloc (.cells #[.bool false, .slice none 0 0] 39)) := D.alloc D.size (.cells #[.bool false, .slice none 0 0] 39)
        clear D
        have D := D1
        clear D1
        obtain ⟨w5, hw5⟩ : ∃ w5, w4.alloc (.cells #[.bool false, .slice none 0 0] 39) = w5 := ⟨_, rfl⟩
        obtain ⟨Hg, hHg⟩ : ∃ Hg, w4.heap.size = Hg := ⟨_, rfl⟩
        rw [hw5] at H' D G hHeld ⊢
        rw [hHg] at H' hne ⊢
        have Hn : W0.heap.size ≤ Hg := by rw [← hHg]; exact Hn
        have H := H'
        clear H' hw5 hHg
        obtain ⟨hq, hr⟩ := VA.out _ D
        have X := Lib.hid (lv_set D Gn Hn hne G H hq hr)
        have D10 := below_set2 D Gn (.bool b1) (.slice A1 n1 c1)
        have D11 := below_set2 D10 Hn (.bool b2) (.slice A2 n2 c2)
        have H1 := H.far2 (hne).symm (.bool b1) (.slice A1 n1 c1)
        have g0 := G.at_ 0 rfl; have g1 := G.at_ 1 rfl; have f0 := G.frozen 0; have f1 := G.frozen 1; have h0 := H1.at_ 0 rfl; have h1 := H1.at_ 1 rfl; have f2 := H1.frozen 0; have f3 := H1.frozen 1
        have D10 := Lib.hid D10; have D11 := Lib.hid D11
        clear G H H1 D hq hr
        (refine wpAnyL_one (i := 6) (o := _) (by kernel_rfl) rfl (fun K hK => ?_); clear hHeld; simp only [List.getElem_toArray, List.getElem_cons_zero, List.getElem_cons_succ]; go_simp; refine hK.out _ _ ?_ (fun hHeld => ?_); focus (intro _; exact (KB.out _ D10.out).1)); have hHeld := hHeld (by decide); clear hK K; (try simp only [Act.put, List.setIfInBounds_toArray, List.set_cons_zero, List.set_cons_succ])
        (refine wpAnyL_one (i := 7) (o := _) (by kernel_rfl) rfl (fun K hK => ?_); clear hHeld; simp only [List.getElem_toArray, List.getElem_cons_zero, List.getElem_cons_succ]; go_simp; refine hK.out _ _ ?_ (fun hHeld => ?_); focus (intro _; exact (KB.out _ D11.out).1)); have hHeld := hHeld (by decide); clear hK K; (try simp only [Act.put, List.setIfInBounds_toArray, List.set_cons_zero, List.set_cons_succ])
        refine wpAnyL_done (by kernel_rfl) ?_ _
        go_wp2
        go_meet
        exact X.out
    · as_aux_lemma =>
        (clear hHeld; simp only [List.getElem_toArray, List.getElem_cons_zero, List.getElem_cons_succ]; go_simp; refine hK.out _ _ ?_ (fun hHeld => ?_); focus (intro _; exact (KB.out _ (D.alloc D.size _)).1)); have hHeld := hHeld (by decide); clear hK K; (try simp only [Act.put, List.setIfInBounds_toArray, List.set_cons_zero, List.set_cons_succ])
        have H' := Blk.drew (Blk.new W0 39 #[.bool false, .slice none 0 0])
        have Hn : W0.heap.size ≤ W0.heap.size := Nat.le_refl _
        have D1 : Below W0.heap.size W0 ((W0.alloc (.cells #[.bool false, .slice none 0 0] 39)).drew) := D.alloc D.size (.cells #[.bool false, .slice none 0 0] 39)
        clear D
        have D := D1
        clear D1
        obtain ⟨w5, hw5⟩ : ∃ w5, (W0.alloc (.cells #[.bool false, .slice none 0 0] 39)).drew = w5 := ⟨_, rfl⟩
        obtain ⟨Hg, hHg⟩ : ∃ Hg, W0.heap.size = Hg := ⟨_, rfl⟩
        rw [hw5] at H' D hHeld ⊢
        rw [hHg] at H' ⊢
        have Hn : W0.heap.size ≤ Hg := by rw [← hHg]; exact Hn
        have H := H'
        clear H' hw5 hHg
        (refine wpAnyL_one (i := 4) (o := _) (by kernel_rfl) rfl (fun K hK => ?_); clear hHeld; simp only [List.getElem_toArray, List.getElem_cons_zero, List.getElem_cons_succ]; go_simp; refine hK.out _ _ ?_ (fun hHeld => ?_); focus (intro _; exact (KB.out _ (D.alloc D.size _)).1)); have hHeld := hHeld (by decide); clear hK K; (try simp only [Act.put, List.setIfInBounds_toArray, List.set_cons_zero, List.set_cons_succ])
        have G' := Blk.new w5 39 #[.bool false, .slice none 0 0]
        have Gn : W0.heap.size ≤ w5.heap.size := D.size
        have hne : Hg ≠ w5.heap.size := Nat.ne_of_lt H.lt
        have H := H.alloc (.cells #[.bool false, .slice none 0 0] 39)
        have D1 : Below W0.heap.size W0 (w5.alloc (.cells #[.bool false, .slice none 0 0] 39)) := D.alloc D.size (.cells #[.bool false, .slice none 0 0] 39)
        clear D
        have D := D1
        clear D1
        obtain ⟨w4, hw4⟩ : ∃ w4, w5.alloc (.cells #[.bool false, .slice none 0 0] 39) = w4 := ⟨_, rfl⟩
        obtain ⟨Gg, hGg⟩ : ∃ Gg, w5.heap.size = Gg := ⟨_, rfl⟩
        rw [hw4] at G' D H hHeld ⊢
        rw [hGg] at G' hne ⊢
        have Gn : W0.heap.size ≤ Gg := by rw [← hGg]; exact Gn
        have G := G'
        clear G' hw4 hGg
        obtain ⟨hq, hr⟩ := VA.out _ D
        have X := Lib.hid (lv_set D Gn Hn hne.symm G H hq hr)
        have D10 := below_set2 D Gn (.bool b1) (.slice A1 n1 c1)
        have D11 := below_set2 D10 Hn (.bool b2) (.slice A2 n2 c2)
        have H1 := H.far2 (hne.symm).symm (.bool b1) (.slice A1 n1 c1)
        have g0 := G.at_ 0 rfl; have g1 := G.at_ 1 rfl; have f0 := G.frozen 0; have f1 := G.frozen 1; have h0 := H1.at_ 0 rfl; have h1 := H1.at_ 1 rfl; have f2 := H1.frozen 0; have f3 := H1.frozen 1
        have D10 := Lib.hid D10; have D11 := Lib.hid D11
        clear G H H1 D hq hr
        (refine wpAnyL_one (i := 6) (o := _) (by kernel_rfl) rfl (fun K hK => ?_); clear hHeld; simp only [List.getElem_toArray, List.getElem_cons_zero, List.getElem_cons_succ]; go_simp; refine hK.out _ _ ?_ (fun hHeld => ?_); focus (intro _; exact (KB.out _ D10.out).1)); have hHeld := hHeld (by decide); clear hK K; (try simp only [Act.put, List.setIfInBounds_toArray, List.set_cons_zero, List.set_cons_succ])
        (refine wpAnyL_one (i := 7) (o := _) (by kernel_rfl) rfl (fun K hK => ?_); clear hHeld; simp only [List.getElem_toArray, List.getElem_cons_zero, List.getElem_cons_succ]; go_simp; refine hK.out _ _ ?_ (fun hHeld => ?_); focus (intro _; exact (KB.out _ D11.out).1)); have hHeld := hHeld (by decide); clear hK K; (try simp only [Act.put, List.setIfInBounds_toArray, List.set_cons_zero, List.set_cons_succ])
        refine wpAnyL_done (by kernel_rfl) ?_ _
        go_wp2
        go_meet
        exact X.out
  case rest =>
    obtain ⟨g, h, bx, Ax, nx, cx, by', Ay, ny, cy, rfl, rfl, hG, hH, hq, hr, hne, hg, hh, hD⟩ := hcut
    have D := hD
    obtain ⟨⟨p0, p1, p2, q0, q1, q2⟩, -, -⟩ := KB.out _ D
    have g0 := hG.at_ 0 rfl; have g1 := hG.at_ 1 rfl; have h0 := hH.at_ 0 rfl; have h1 := hH.at_ 1 rfl
    by_cases k1 : ta < T
    · have k2 : ¬ tb < T := by have := HT.out; split at this <;> omega
      as_aux_lemma =>
        have i1 : IntKind.i64.wrap (T - ta) = T - ta := IntWalk.i64_in _ (by have := HT.out; split at this <;> omega)
        obtain ⟨k, hk⟩ : ∃ k : Nat, T - ta = k := ⟨(T - ta).toNat, by omega⟩
        have kb : k ≤ 100000 := by have := HT.out; split at this <;> omega
        have PW : Hid (∀ W : World, Calls Tryz.prog 36 #[.int .i64 (T - ta)] W (RetZ W (2 ^ k))) := fun W => by
          rw [hk]
          have := ZPow_c k (k : Int) W (by omega) (by simp) (by omega)
          simpa using this
        have MU : Hid (∀ (W : World) (u v : Value), ZV W u a → ZV W v (2 ^ k) → Calls Tryz.prog 54 #[u, v] W (RetZ W (a * 2 ^ k))) := fun W u v h1 h2 => ZMul_c u v _ _ W h1 h2 (big_lt bA) (pow2_big k (by omega))
        have HK := Lib.hid hk
        clear hk kb
        go_upto_region 4 with fail
        have D := D.drew; have hG := hG.drew; have hH := hH.drew; have hq := hq.drew; have hr := hr.drew
        (refine wp_region_L (S := fun w' => w'.cell? ⟨w.heap.size, 2, none⟩ = some (.int .i64 ta) ∧ w'.cell? ⟨g, 0, none⟩ = some (.bool bx) ∧ w'.cell? ⟨g, 1, none⟩ = some (.slice Ax nx cx)) (nl := 7) (by kernel_rfl) ?_ (fun hHeld => ?_); focus (exact ⟨(KB.out _ D).1.2.2.1, hG.at_ 0 rfl, hG.at_ 1 rfl⟩))
        (refine wpAnyL_take (i := 0) (oi := _) (v := ?_) rfl (by kernel_rfl) (by kernel_rfl) (by kernel_rfl) (fun _ _ _ h => h) (Or.inl ⟨by first | rfl | kernel_rfl, ?hy43⟩) (by assumption) ?rs43; (case hy43 => (intro w hSw; (try dsimp only at hSw); go_simp; first | done | with_reducible rfl)); case' rs43 => (simp only [List.getElem_toArray, List.getElem_cons_zero, List.getElem_cons_succ, Act.put, List.setIfInBounds_toArray, List.set_cons_zero, List.set_cons_succ])); (refine wpAnyL_take (i := 1) (oi := _) (v := ?_) rfl (by kernel_rfl) (by kernel_rfl) (by kernel_rfl) (fun _ _ _ h => h) (Or.inl ⟨by first | rfl | kernel_rfl, ?hy44⟩) (by assumption) ?rs44; (case hy44 => (intro w hSw; (try dsimp only at hSw); go_simp; first | done | with_reducible rfl)); case' rs44 => (simp only [List.getElem_toArray, List.getElem_cons_zero, List.getElem_cons_succ, Act.put, List.setIfInBounds_toArray, List.set_cons_zero, List.set_cons_succ])); (refine wpAnyL_take (i := 2) (oi := _) (v := ?_) rfl (by kernel_rfl) (by kernel_rfl) (by kernel_rfl) (fun _ _ _ h => h) (Or.inl ⟨by first | rfl | kernel_rfl, ?hy45⟩) (by assumption) ?rs45; (case hy45 => (intro w hSw; (try dsimp only at hSw); go_simp; first | done | with_reducible rfl)); case' rs45 => (simp only [List.getElem_toArray, List.getElem_cons_zero, List.getElem_cons_succ, Act.put, List.setIfInBounds_toArray, List.set_cons_zero, List.set_cons_succ])); (refine wpAnyL_take (i := 3) (oi := _) (v := ?_) rfl (by kernel_rfl) (by kernel_rfl) (by kernel_rfl) (fun _ _ _ h => h) (Or.inl ⟨by first | rfl | kernel_rfl, ?hy46⟩) (by assumption) ?rs46; (case hy46 => (intro w hSw; (try dsimp only at hSw); go_simp; first | done | with_reducible rfl)); case' rs46 => (simp only [List.getElem_toArray, List.getElem_cons_zero, List.getElem_cons_succ, Act.put, List.setIfInBounds_toArray, List.set_cons_zero, List.set_cons_succ])); (refine wpAnyL_take (i := 4) (oi := _) (v := ?_) rfl (by kernel_rfl) (by kernel_rfl) (by kernel_rfl) (fun _ _ _ h => h) (Or.inl ⟨by first | rfl | kernel_rfl, ?hy47⟩) (by assumption) ?rs47; (case hy47 => (intro w hSw; (try dsimp only at hSw); go_simp; first | done | with_reducible rfl)); case' rs47 => (simp only [List.getElem_toArray, List.getElem_cons_zero, List.getElem_cons_succ, Act.put, List.setIfInBounds_toArray, List.set_cons_zero, List.set_cons_succ])); skip
        (refine wpAnyL_one (i := 5) (o := _) (by kernel_rfl) rfl (fun K hK => ?_); clear hHeld; simp only [List.getElem_toArray, List.getElem_cons_zero, List.getElem_cons_succ]; go_simp; (go_at_call 36; (with_reducible refine (PW.out _).mono ?_); rintro e w1 ⟨_, rfl, ⟨bp, Ap, np, cp, rfl, hp⟩, hb3⟩; have D := D.trans (hb3.mono D.size); have hG := hG.below hb3 hG.lt; have hH := hH.below hb3 hH.lt; have hq := hq.below hb3; have hr := hr.below hb3); refine hK.out _ _ ?_ (fun hHeld => ?_); focus (intro _; exact ⟨(KB.out _ D).1.2.2.1, hG.at_ 0 rfl, hG.at_ 1 rfl⟩)); have hHeld := hHeld (by decide); clear hK K; (try simp only [Act.put, List.setIfInBounds_toArray, List.set_cons_zero, List.set_cons_succ])
        (refine wpAnyL_one (i := 6) (o := _) (by kernel_rfl) rfl (fun K hK => ?_); clear hHeld; simp only [List.getElem_toArray, List.getElem_cons_zero, List.getElem_cons_succ]; go_simp; (go_at_call 54; (with_reducible refine (MU.out _ _ _ hq.v hp.zl.v).mono ?_); rintro e w2 ⟨_, rfl, ⟨bp, Ap, np, cp, rfl, hp⟩, hb3⟩; have D := D.trans (hb3.mono D.size); have hG := hG.below hb3 hG.lt; have hH := hH.below hb3 hH.lt; have hq := hq.below hb3; have hr := hr.below hb3); refine hK.out _ _ ?_ (fun hHeld => ?_); focus (intro _; exact ⟨(KB.out _ D).1.2.2.1, hG.at_ 0 rfl, hG.at_ 1 rfl⟩)); have hHeld := hHeld (by decide); clear hK K; (try simp only [Act.put, List.setIfInBounds_toArray, List.set_cons_zero, List.set_cons_succ])
        have hz := ZC.ZL.box hp.zl (hG.at_ 0 rfl) (hG.at_ 1 rfl) (.bool bp) (.slice Ap np cp)
        have ho := ZC.ZL.box hr (hG.at_ 0 rfl) (hG.at_ 1 rfl) (.bool bp) (.slice Ap np cp)
        have h2' := hG.set2 (.bool bp) (.slice Ap np cp)
        have h3' := hH.far2 (hne).symm (.bool bp) (.slice Ap np cp)
        have D2 := below_set2 D hg (.bool bp) (.slice Ap np cp)
        have f0 := hG.frozen 0; have f1 := hG.frozen 1; have t0 := hG.at_ 0 rfl; have t1 := hG.at_ 1 rfl
        clear hq hr hp hG hH D
        (refine wpAnyL_one (i := 7) (o := _) (by kernel_rfl) rfl (fun K hK => ?_); clear hHeld; simp only [List.getElem_toArray, List.getElem_cons_zero, List.getElem_cons_succ]; go_simp; refine hK.out _ _ ?_ (fun hHeld => ?_); focus (intro h; exact absurd h (by decide))); clear hK K; (try simp only [Act.put, List.setIfInBounds_toArray, List.set_cons_zero, List.set_cons_succ])
        refine wpAnyL_done (by kernel_rfl) ?_ _
        obtain ⟨w3, hw3⟩ : ∃ w3, ((w2.setCell ⟨g, 0, none⟩ (.bool bp)).setCell ⟨g, 1, none⟩ (.slice Ap np cp)) = w3 := ⟨_, rfl⟩
        rw [hw3] at D2 h2' h3' hz ho ⊢
        clear hw3
        have D := D2; have hG := h2'; have hH := h3'; have hq := hz; have hr := ho
        clear D2 h2' h3' hz ho f0 f1 t0 t1
        obtain ⟨⟨p0, p1, p2, q0, q1, q2⟩, -, -⟩ := KB.out _ D
        have g0 := hG.at_ 0 rfl; have g1 := hG.at_ 1 rfl; have h0 := hH.at_ 0 rfl; have h1 := hH.at_ 1 rfl
        go_upto_region 7 with fail
        obtain ⟨-, R0, R1⟩ := KB.out _ D
        have R0 := (show Blk _ (w.heap.size + 1 + 1) 39 #[.bool false, .slice none 0 0] from R0)
        have R1 := (show Blk _ (w.heap.size + 1 + 1 + 1) 39 #[.bool false, .slice none 0 0] from R1)
        have eg : g ≠ w.heap.size + 1 + 1 := by have := HS2.out; omega
        have eh : h ≠ w.heap.size + 1 + 1 := by have := HS2.out; omega
        have eg3 : g ≠ w.heap.size + 1 + 1 + 1 := by have := HS2.out; omega
        have eh3 : h ≠ w.heap.size + 1 + 1 + 1 := by have := HS2.out; omega
        have G1 := hG.far2 eg (.bool bp) (.slice Ap np cp); have H1 := hH.far2 eh (.bool bp) (.slice Ap np cp); have R1' := R1.far2 (show w.heap.size + 1 + 1 + 1 ≠ w.heap.size + 1 + 1 by omega) (.bool bp) (.slice Ap np cp)
        have G2 := G1.far2 eg3 (.bool by') (.slice Ay ny cy); have H2 := H1.far2 eh3 (.bool by') (.slice Ay ny cy)
        have z0 := ZC.ZL.box hq (R0.at_ 0 rfl) (R0.at_ 1 rfl) (.bool bp) (.slice Ap np cp); have z1 := ZC.ZL.box hr (R0.at_ 0 rfl) (R0.at_ 1 rfl) (.bool bp) (.slice Ap np cp)
        have y0 := ZC.ZL.box z0 (R1'.at_ 0 rfl) (R1'.at_ 1 rfl) (.bool by') (.slice Ay ny cy); have y1 := ZC.ZL.box z1 (R1'.at_ 0 rfl) (R1'.at_ 1 rfl) (.bool by') (.slice Ay ny cy)
        have D2 := Lib.hid (below_set2 (below_set2 (D0.out.trans (D.mono D0.out.size)) (show w.heap.size ≤ w.heap.size + 1 + 1 by omega) (.bool bp) (.slice Ap np cp)) (show w.heap.size ≤ w.heap.size + 1 + 1 + 1 by omega) (.bool by') (.slice Ay ny cy))
        have f0 := R0.frozen 0; have f1 := R0.frozen 1; have t0 := R0.at_ 0 rfl; have t1 := R0.at_ 1 rfl; have f2 := R1'.frozen 0; have f3 := R1'.frozen 1; have t2 := R1'.at_ 0 rfl; have t3 := R1'.at_ 1 rfl
        have RR := (R0.set2 (.bool bp) (.slice Ap np cp)).far2 (show w.heap.size + 1 + 1 ≠ w.heap.size + 1 + 1 + 1 by omega) (.bool by') (.slice Ay ny cy)
        have RS := R1'.set2 (.bool by') (.slice Ay ny cy)
        have u0 := RR.at_ 0 rfl; have u1 := RR.at_ 1 rfl; have u2 := RS.at_ 0 rfl; have u3 := RS.at_ 1 rfl
        have U := Lib.hid (And.intro u0 (And.intro u1 (And.intro u2 u3)))
        have Y := Lib.hid (And.intro y0 y1)
        (refine wp_region_L (S := fun w' => w'.cell? ⟨g, 0, none⟩ = some (.bool bp) ∧ w'.cell? ⟨g, 1, none⟩ = some (.slice Ap np cp) ∧ w'.cell? ⟨h, 0, none⟩ = some (.bool by') ∧ w'.cell? ⟨h, 1, none⟩ = some (.slice Ay ny cy)) (nl := 1000000) (by kernel_rfl) ?_ (fun hHeld => ?_); focus (exact ⟨hG.drew.at_ 0 rfl, hG.drew.at_ 1 rfl, hH.drew.at_ 0 rfl, hH.drew.at_ 1 rfl⟩))
        (refine wpAnyL_take (i := 0) (oi := _) (v := ?_) rfl (by kernel_rfl) (by kernel_rfl) (by kernel_rfl) (fun _ _ _ h => h) (Or.inl ⟨by first | rfl | kernel_rfl, ?hy48⟩) (by assumption) ?rs48; (case hy48 => (intro w hSw; (try dsimp only at hSw); go_simp; first | done | with_reducible rfl)); case' rs48 => (simp only [List.getElem_toArray, List.getElem_cons_zero, List.getElem_cons_succ, Act.put, List.setIfInBounds_toArray, List.set_cons_zero, List.set_cons_succ])); (refine wpAnyL_take (i := 1) (oi := _) (v := ?_) rfl (by kernel_rfl) (by kernel_rfl) (by kernel_rfl) (fun _ _ _ h => h) (Or.inl ⟨by first | rfl | kernel_rfl, ?hy49⟩) (by assumption) ?rs49; (case hy49 => (intro w hSw; (try dsimp only at hSw); go_simp; first | done | with_reducible rfl)); case' rs49 => (simp only [List.getElem_toArray, List.getElem_cons_zero, List.getElem_cons_succ, Act.put, List.setIfInBounds_toArray, List.set_cons_zero, List.set_cons_succ])); (refine wpAnyL_take (i := 2) (oi := _) (v := ?_) rfl (by kernel_rfl) (by kernel_rfl) (by kernel_rfl) (fun _ _ _ h => h) (Or.inl ⟨by first | rfl | kernel_rfl, ?hy50⟩) (by assumption) ?rs50; (case hy50 => (intro w hSw; (try dsimp only at hSw); go_simp; first | done | with_reducible rfl)); case' rs50 => (simp only [List.getElem_toArray, List.getElem_cons_zero, List.getElem_cons_succ, Act.put, List.setIfInBounds_toArray, List.set_cons_zero, List.set_cons_succ])); skip
        clear u0 u1 u2 u3 RR RS y0 y1 z0 z1 R0 R1 R1' hG hH hq hr D
        (refine wpAnyL_one (i := 3) (o := _) (by kernel_rfl) rfl (fun K hK => ?_); clear hHeld; simp only [List.getElem_toArray, List.getElem_cons_zero, List.getElem_cons_succ]; go_simp; refine hK.out _ _ ?_ (fun hHeld => ?_); focus (intro _; exact ⟨G1.drew.at_ 0 rfl, G1.drew.at_ 1 rfl, H1.drew.at_ 0 rfl, H1.drew.at_ 1 rfl⟩)); have hHeld := hHeld (by decide); clear hK K; (try simp only [Act.put, List.setIfInBounds_toArray, List.set_cons_zero, List.set_cons_succ])
        (refine wpAnyL_one (i := 4) (o := _) (by kernel_rfl) rfl (fun K hK => ?_); clear hHeld; simp only [List.getElem_toArray, List.getElem_cons_zero, List.getElem_cons_succ]; go_simp; refine hK.out _ _ ?_ (fun hHeld => ?_); focus (intro _; exact ⟨G2.drew.at_ 0 rfl, G2.drew.at_ 1 rfl, H2.drew.at_ 0 rfl, H2.drew.at_ 1 rfl⟩)); have hHeld := hHeld (by decide); clear hK K; (try simp only [Act.put, List.setIfInBounds_toArray, List.set_cons_zero, List.set_cons_succ])
        (refine wpAnyL_take (i := 5) (oi := _) (v := ?_) rfl (by kernel_rfl) (by kernel_rfl) (by kernel_rfl) (fun _ _ _ h => h) (Or.inl ⟨by first | rfl | kernel_rfl, ?hy51⟩) (by assumption) ?rs51; (case hy51 => (intro w hSw; (try dsimp only at hSw); go_simp; first | done | with_reducible rfl)); case' rs51 => (simp only [List.getElem_toArray, List.getElem_cons_zero, List.getElem_cons_succ, Act.put, List.setIfInBounds_toArray, List.set_cons_zero, List.set_cons_succ])); skip
        refine wpAnyL_done (by kernel_rfl) ?_ _
        go_wp2
        obtain ⟨u0, u1, u2, u3⟩ := U.out
        refine bodyPost_ret (v := .tuple #[.agg #[.bool bp, .slice Ap np cp], .agg #[.bool by', .slice Ay ny cy], .int .i64 T]) (by simp [results, Tryz.results39, go_sem, u0, u1, u2, u3]) rfl ?_
        have hT := HT.out
        have eT : max ta tb = T := by split at hT <;> omega
        have e1 : (max ta tb - ta).toNat = k := by have := HK.out; omega
        have e2 : (max ta tb - tb).toNat = 0 := by omega
        rw [e1, e2, eT]
        refine ⟨_, _, _, _, _, _, _, _, rfl, ?_, ?_, D2.out.drew⟩
        · exact Y.out.1.drew
        · rw [Int.pow_zero, Int.mul_one]; exact Y.out.2.drew
    · by_cases k2 : tb < T
      · as_aux_lemma =>
          have i1 : IntKind.i64.wrap (T - tb) = T - tb := IntWalk.i64_in _ (by have := HT.out; split at this <;> omega)
          obtain ⟨k, hk⟩ : ∃ k : Nat, T - tb = k := ⟨(T - tb).toNat, by omega⟩
          have kb : k ≤ 100000 := by have := HT.out; split at this <;> omega
          have PW : Hid (∀ W : World, Calls Tryz.prog 36 #[.int .i64 (T - tb)] W (RetZ W (2 ^ k))) := fun W => by
            rw [hk]
            have := ZPow_c k (k : Int) W (by omega) (by simp) (by omega)
            simpa using this
          have MU : Hid (∀ (W : World) (u v : Value), ZV W u b → ZV W v (2 ^ k) → Calls Tryz.prog 54 #[u, v] W (RetZ W (b * 2 ^ k))) := fun W u v h1 h2 => ZMul_c u v _ _ W h1 h2 (big_lt bB) (pow2_big k (by omega))
          have HK := Lib.hid hk
          clear hk kb
          go_upto_region 6 with fail
          have D := D.drew; have hG := hG.drew; have hH := hH.drew; have hq := hq.drew; have hr := hr.drew
          (refine wp_region_L (S := fun w' => w'.cell? ⟨w.heap.size + 1, 2, none⟩ = some (.int .i64 tb) ∧ w'.cell? ⟨h, 0, none⟩ = some (.bool by') ∧ w'.cell? ⟨h, 1, none⟩ = some (.slice Ay ny cy)) (nl := 7) (by kernel_rfl) ?_ (fun hHeld => ?_); focus (exact ⟨(KB.out _ D).1.2.2.2.2.2, hH.at_ 0 rfl, hH.at_ 1 rfl⟩))
          (refine wpAnyL_take (i := 0) (oi := _) (v := ?_) rfl (by kernel_rfl) (by kernel_rfl) (by kernel_rfl) (fun _ _ _ h => h) (Or.inl ⟨by first | rfl | kernel_rfl, ?hy52⟩) (by assumption) ?rs52; (case hy52 => (intro w hSw; (try dsimp only at hSw); go_simp; first | done | with_reducible rfl)); case' rs52 => (simp only [List.getElem_toArray, List.getElem_cons_zero, List.getElem_cons_succ, Act.put, List.setIfInBounds_toArray, List.set_cons_zero, List.set_cons_succ])); (refine wpAnyL_take (i := 1) (oi := _) (v := ?_) rfl (by kernel_rfl) (by kernel_rfl) (by kernel_rfl) (fun _ _ _ h => h) (Or.inl ⟨by first | rfl | kernel_rfl, ?hy53⟩) (by assumption) ?rs53; (case hy53 => (intro w hSw; (try dsimp only at hSw); go_simp; first | done | with_reducible rfl)); case' rs53 => (simp only [List.getElem_toArray, List.getElem_cons_zero, List.getElem_cons_succ, Act.put, List.setIfInBounds_toArray, List.set_cons_zero, List.set_cons_succ])); (refine wpAnyL_take (i := 2) (oi := _) (v := ?_) rfl (by kernel_rfl) (by kernel_rfl) (by kernel_rfl) (fun _ _ _ h => h) (Or.inl ⟨by first | rfl | kernel_rfl, ?hy54⟩) (by assumption) ?rs54; (case hy54 => (intro w hSw; (try dsimp only at hSw); go_simp; first | done | with_reducible rfl)); case' rs54 => (simp only [List.getElem_toArray, List.getElem_cons_zero, List.getElem_cons_succ, Act.put, List.setIfInBounds_toArray, List.set_cons_zero, List.set_cons_succ])); (refine wpAnyL_take (i := 3) (oi := _) (v := ?_) rfl (by kernel_rfl) (by kernel_rfl) (by kernel_rfl) (fun _ _ _ h => h) (Or.inl ⟨by first | rfl | kernel_rfl, ?hy55⟩) (by assumption) ?rs55; (case hy55 => (intro w hSw; (try dsimp only at hSw); go_simp; first | done | with_reducible rfl)); case' rs55 => (simp only [List.getElem_toArray, List.getElem_cons_zero, List.getElem_cons_succ, Act.put, List.setIfInBounds_toArray, List.set_cons_zero, List.set_cons_succ])); (refine wpAnyL_take (i := 4) (oi := _) (v := ?_) rfl (by kernel_rfl) (by kernel_rfl) (by kernel_rfl) (fun _ _ _ h => h) (Or.inl ⟨by first | rfl | kernel_rfl, ?hy56⟩) (by assumption) ?rs56; (case hy56 => (intro w hSw; (try dsimp only at hSw); go_simp; first | done | with_reducible rfl)); case' rs56 => (simp only [List.getElem_toArray, List.getElem_cons_zero, List.getElem_cons_succ, Act.put, List.setIfInBounds_toArray, List.set_cons_zero, List.set_cons_succ])); skip
          (refine wpAnyL_one (i := 5) (o := _) (by kernel_rfl) rfl (fun K hK => ?_); clear hHeld; simp only [List.getElem_toArray, List.getElem_cons_zero, List.getElem_cons_succ]; go_simp; (go_at_call 36; (with_reducible refine (PW.out _).mono ?_); rintro e w1 ⟨_, rfl, ⟨bp, Ap, np, cp, rfl, hp⟩, hb3⟩; have D := D.trans (hb3.mono D.size); have hG := hG.below hb3 hG.lt; have hH := hH.below hb3 hH.lt; have hq := hq.below hb3; have hr := hr.below hb3); refine hK.out _ _ ?_ (fun hHeld => ?_); focus (intro _; exact ⟨(KB.out _ D).1.2.2.2.2.2, hH.at_ 0 rfl, hH.at_ 1 rfl⟩)); have hHeld := hHeld (by decide); clear hK K; (try simp only [Act.put, List.setIfInBounds_toArray, List.set_cons_zero, List.set_cons_succ])
          (refine wpAnyL_one (i := 6) (o := _) (by kernel_rfl) rfl (fun K hK => ?_); clear hHeld; simp only [List.getElem_toArray, List.getElem_cons_zero, List.getElem_cons_succ]; go_simp; (go_at_call 54; (with_reducible refine (MU.out _ _ _ hr.v hp.zl.v).mono ?_); rintro e w2 ⟨_, rfl, ⟨bp, Ap, np, cp, rfl, hp⟩, hb3⟩; have D := D.trans (hb3.mono D.size); have hG := hG.below hb3 hG.lt; have hH := hH.below hb3 hH.lt; have hq := hq.below hb3; have hr := hr.below hb3); refine hK.out _ _ ?_ (fun hHeld => ?_); focus (intro _; exact ⟨(KB.out _ D).1.2.2.2.2.2, hH.at_ 0 rfl, hH.at_ 1 rfl⟩)); have hHeld := hHeld (by decide); clear hK K; (try simp only [Act.put, List.setIfInBounds_toArray, List.set_cons_zero, List.set_cons_succ])
          have hz := ZC.ZL.box hp.zl (hH.at_ 0 rfl) (hH.at_ 1 rfl) (.bool bp) (.slice Ap np cp)
          have ho := ZC.ZL.box hq (hH.at_ 0 rfl) (hH.at_ 1 rfl) (.bool bp) (.slice Ap np cp)
          have h2' := hH.set2 (.bool bp) (.slice Ap np cp)
          have h3' := hG.far2 (hne.symm).symm (.bool bp) (.slice Ap np cp)
          have D2 := below_set2 D hh (.bool bp) (.slice Ap np cp)
          have f0 := hH.frozen 0; have f1 := hH.frozen 1; have t0 := hH.at_ 0 rfl; have t1 := hH.at_ 1 rfl
          clear hq hr hp hG hH D
          (refine wpAnyL_one (i := 7) (o := _) (by kernel_rfl) rfl (fun K hK => ?_); clear hHeld; simp only [List.getElem_toArray, List.getElem_cons_zero, List.getElem_cons_succ]; go_simp; refine hK.out _ _ ?_ (fun hHeld => ?_); focus (intro h; exact absurd h (by decide))); clear hK K; (try simp only [Act.put, List.setIfInBounds_toArray, List.set_cons_zero, List.set_cons_succ])
          refine wpAnyL_done (by kernel_rfl) ?_ _
          obtain ⟨w3, hw3⟩ : ∃ w3, ((w2.setCell ⟨h, 0, none⟩ (.bool bp)).setCell ⟨h, 1, none⟩ (.slice Ap np cp)) = w3 := ⟨_, rfl⟩
          rw [hw3] at D2 h2' h3' hz ho ⊢
          clear hw3
          have D := D2; have hH := h2'; have hG := h3'; have hr := hz; have hq := ho
          clear D2 h2' h3' hz ho f0 f1 t0 t1
          obtain ⟨⟨p0, p1, p2, q0, q1, q2⟩, -, -⟩ := KB.out _ D
          have g0 := hG.at_ 0 rfl; have g1 := hG.at_ 1 rfl; have h0 := hH.at_ 0 rfl; have h1 := hH.at_ 1 rfl
          go_upto_region 7 with fail
          obtain ⟨-, R0, R1⟩ := KB.out _ D
          have R0 := (show Blk _ (w.heap.size + 1 + 1) 39 #[.bool false, .slice none 0 0] from R0)
          have R1 := (show Blk _ (w.heap.size + 1 + 1 + 1) 39 #[.bool false, .slice none 0 0] from R1)
          have eg : g ≠ w.heap.size + 1 + 1 := by have := HS2.out; omega
          have eh : h ≠ w.heap.size + 1 + 1 := by have := HS2.out; omega
          have eg3 : g ≠ w.heap.size + 1 + 1 + 1 := by have := HS2.out; omega
          have eh3 : h ≠ w.heap.size + 1 + 1 + 1 := by have := HS2.out; omega
          have G1 := hG.far2 eg (.bool bx) (.slice Ax nx cx); have H1 := hH.far2 eh (.bool bx) (.slice Ax nx cx); have R1' := R1.far2 (show w.heap.size + 1 + 1 + 1 ≠ w.heap.size + 1 + 1 by omega) (.bool bx) (.slice Ax nx cx)
          have G2 := G1.far2 eg3 (.bool bp) (.slice Ap np cp); have H2 := H1.far2 eh3 (.bool bp) (.slice Ap np cp)
          have z0 := ZC.ZL.box hq (R0.at_ 0 rfl) (R0.at_ 1 rfl) (.bool bx) (.slice Ax nx cx); have z1 := ZC.ZL.box hr (R0.at_ 0 rfl) (R0.at_ 1 rfl) (.bool bx) (.slice Ax nx cx)
          have y0 := ZC.ZL.box z0 (R1'.at_ 0 rfl) (R1'.at_ 1 rfl) (.bool bp) (.slice Ap np cp); have y1 := ZC.ZL.box z1 (R1'.at_ 0 rfl) (R1'.at_ 1 rfl) (.bool bp) (.slice Ap np cp)
          have D2 := Lib.hid (below_set2 (below_set2 (D0.out.trans (D.mono D0.out.size)) (show w.heap.size ≤ w.heap.size + 1 + 1 by omega) (.bool bx) (.slice Ax nx cx)) (show w.heap.size ≤ w.heap.size + 1 + 1 + 1 by omega) (.bool bp) (.slice Ap np cp))
          have f0 := R0.frozen 0; have f1 := R0.frozen 1; have t0 := R0.at_ 0 rfl; have t1 := R0.at_ 1 rfl; have f2 := R1'.frozen 0; have f3 := R1'.frozen 1; have t2 := R1'.at_ 0 rfl; have t3 := R1'.at_ 1 rfl
          have RR := (R0.set2 (.bool bx) (.slice Ax nx cx)).far2 (show w.heap.size + 1 + 1 ≠ w.heap.size + 1 + 1 + 1 by omega) (.bool bp) (.slice Ap np cp)
          have RS := R1'.set2 (.bool bp) (.slice Ap np cp)
          have u0 := RR.at_ 0 rfl; have u1 := RR.at_ 1 rfl; have u2 := RS.at_ 0 rfl; have u3 := RS.at_ 1 rfl
          have U := Lib.hid (And.intro u0 (And.intro u1 (And.intro u2 u3)))
          have Y := Lib.hid (And.intro y0 y1)
          (refine wp_region_L (S := fun w' => w'.cell? ⟨g, 0, none⟩ = some (.bool bx) ∧ w'.cell? ⟨g, 1, none⟩ = some (.slice Ax nx cx) ∧ w'.cell? ⟨h, 0, none⟩ = some (.bool bp) ∧ w'.cell? ⟨h, 1, none⟩ = some (.slice Ap np cp)) (nl := 1000000) (by kernel_rfl) ?_ (fun hHeld => ?_); focus (exact ⟨hG.drew.at_ 0 rfl, hG.drew.at_ 1 rfl, hH.drew.at_ 0 rfl, hH.drew.at_ 1 rfl⟩))
          (refine wpAnyL_take (i := 0) (oi := _) (v := ?_) rfl (by kernel_rfl) (by kernel_rfl) (by kernel_rfl) (fun _ _ _ h => h) (Or.inl ⟨by first | rfl | kernel_rfl, ?hy57⟩) (by assumption) ?rs57; (case hy57 => (intro w hSw; (try dsimp only at hSw); go_simp; first | done | with_reducible rfl)); case' rs57 => (simp only [List.getElem_toArray, List.getElem_cons_zero, List.getElem_cons_succ, Act.put, List.setIfInBounds_toArray, List.set_cons_zero, List.set_cons_succ])); (refine wpAnyL_take (i := 1) (oi := _) (v := ?_) rfl (by kernel_rfl) (by kernel_rfl) (by kernel_rfl) (fun _ _ _ h => h) (Or.inl ⟨by first | rfl | kernel_rfl, ?hy58⟩) (by assumption) ?rs58; (case hy58 => (intro w hSw; (try dsimp only at hSw); go_simp; first | done | with_reducible rfl)); case' rs58 => (simp only [List.getElem_toArray, List.getElem_cons_zero, List.getElem_cons_succ, Act.put, List.setIfInBounds_toArray, List.set_cons_zero, List.set_cons_succ])); (refine wpAnyL_take (i := 2) (oi := _) (v := ?_) rfl (by kernel_rfl) (by kernel_rfl) (by kernel_rfl) (fun _ _ _ h => h) (Or.inl ⟨by first | rfl | kernel_rfl, ?hy59⟩) (by assumption) ?rs59; (case hy59 => (intro w hSw; (try dsimp only at hSw); go_simp; first | done | with_reducible rfl)); case' rs59 => (simp only [List.getElem_toArray, List.getElem_cons_zero, List.getElem_cons_succ, Act.put, List.setIfInBounds_toArray, List.set_cons_zero, List.set_cons_succ])); skip
          clear u0 u1 u2 u3 RR RS y0 y1 z0 z1 R0 R1 R1' hG hH hq hr D
          (refine wpAnyL_one (i := 3) (o := _) (by kernel_rfl) rfl (fun K hK => ?_); clear hHeld; simp only [List.getElem_toArray, List.getElem_cons_zero, List.getElem_cons_succ]; go_simp; refine hK.out _ _ ?_ (fun hHeld => ?_); focus (intro _; exact ⟨G1.drew.at_ 0 rfl, G1.drew.at_ 1 rfl, H1.drew.at_ 0 rfl, H1.drew.at_ 1 rfl⟩)); have hHeld := hHeld (by decide); clear hK K; (try simp only [Act.put, List.setIfInBounds_toArray, List.set_cons_zero, List.set_cons_succ])
          (refine wpAnyL_one (i := 4) (o := _) (by kernel_rfl) rfl (fun K hK => ?_); clear hHeld; simp only [List.getElem_toArray, List.getElem_cons_zero, List.getElem_cons_succ]; go_simp; refine hK.out _ _ ?_ (fun hHeld => ?_); focus (intro _; exact ⟨G2.drew.at_ 0 rfl, G2.drew.at_ 1 rfl, H2.drew.at_ 0 rfl, H2.drew.at_ 1 rfl⟩)); have hHeld := hHeld (by decide); clear hK K; (try simp only [Act.put, List.setIfInBounds_toArray, List.set_cons_zero, List.set_cons_succ])
          (refine wpAnyL_take (i := 5) (oi := _) (v := ?_) rfl (by kernel_rfl) (by kernel_rfl) (by kernel_rfl) (fun _ _ _ h => h) (Or.inl ⟨by first | rfl | kernel_rfl, ?hy60⟩) (by assumption) ?rs60; (case hy60 => (intro w hSw; (try dsimp only at hSw); go_simp; first | done | with_reducible rfl)); case' rs60 => (simp only [List.getElem_toArray, List.getElem_cons_zero, List.getElem_cons_succ, Act.put, List.setIfInBounds_toArray, List.set_cons_zero, List.set_cons_succ])); skip
          refine wpAnyL_done (by kernel_rfl) ?_ _
          go_wp2
          obtain ⟨u0, u1, u2, u3⟩ := U.out
          refine bodyPost_ret (v := .tuple #[.agg #[.bool bx, .slice Ax nx cx], .agg #[.bool bp, .slice Ap np cp], .int .i64 T]) (by simp [results, Tryz.results39, go_sem, u0, u1, u2, u3]) rfl ?_
          have hT := HT.out
          have eT : max ta tb = T := by split at hT <;> omega
          have e1 : (max ta tb - ta).toNat = 0 := by omega
          have e2 : (max ta tb - tb).toNat = k := by have := HK.out; omega
          rw [e1, e2, eT]
          refine ⟨_, _, _, _, _, _, _, _, rfl, ?_, ?_, D2.out.drew⟩
          · rw [Int.pow_zero, Int.mul_one]; exact Y.out.1.drew
          · exact Y.out.2.drew
      · as_aux_lemma =>
          go_upto_region 7 with fail
          obtain ⟨-, R0, R1⟩ := KB.out _ D
          have R0 := (show Blk _ (w.heap.size + 1 + 1) 39 #[.bool false, .slice none 0 0] from R0)
          have R1 := (show Blk _ (w.heap.size + 1 + 1 + 1) 39 #[.bool false, .slice none 0 0] from R1)
          have eg : g ≠ w.heap.size + 1 + 1 := by have := HS2.out; omega
          have eh : h ≠ w.heap.size + 1 + 1 := by have := HS2.out; omega
          have eg3 : g ≠ w.heap.size + 1 + 1 + 1 := by have := HS2.out; omega
          have eh3 : h ≠ w.heap.size + 1 + 1 + 1 := by have := HS2.out; omega
          have G1 := hG.far2 eg (.bool bx) (.slice Ax nx cx); have H1 := hH.far2 eh (.bool bx) (.slice Ax nx cx); have R1' := R1.far2 (show w.heap.size + 1 + 1 + 1 ≠ w.heap.size + 1 + 1 by omega) (.bool bx) (.slice Ax nx cx)
          have G2 := G1.far2 eg3 (.bool by') (.slice Ay ny cy); have H2 := H1.far2 eh3 (.bool by') (.slice Ay ny cy)
          have z0 := ZC.ZL.box hq (R0.at_ 0 rfl) (R0.at_ 1 rfl) (.bool bx) (.slice Ax nx cx); have z1 := ZC.ZL.box hr (R0.at_ 0 rfl) (R0.at_ 1 rfl) (.bool bx) (.slice Ax nx cx)
          have y0 := ZC.ZL.box z0 (R1'.at_ 0 rfl) (R1'.at_ 1 rfl) (.bool by') (.slice Ay ny cy); have y1 := ZC.ZL.box z1 (R1'.at_ 0 rfl) (R1'.at_ 1 rfl) (.bool by') (.slice Ay ny cy)
          have D2 := Lib.hid (below_set2 (below_set2 (D0.out.trans (D.mono D0.out.size)) (show w.heap.size ≤ w.heap.size + 1 + 1 by omega) (.bool bx) (.slice Ax nx cx)) (show w.heap.size ≤ w.heap.size + 1 + 1 + 1 by omega) (.bool by') (.slice Ay ny cy))
          have f0 := R0.frozen 0; have f1 := R0.frozen 1; have t0 := R0.at_ 0 rfl; have t1 := R0.at_ 1 rfl; have f2 := R1'.frozen 0; have f3 := R1'.frozen 1; have t2 := R1'.at_ 0 rfl; have t3 := R1'.at_ 1 rfl
          have RR := (R0.set2 (.bool bx) (.slice Ax nx cx)).far2 (show w.heap.size + 1 + 1 ≠ w.heap.size + 1 + 1 + 1 by omega) (.bool by') (.slice Ay ny cy)
          have RS := R1'.set2 (.bool by') (.slice Ay ny cy)
          have u0 := RR.at_ 0 rfl; have u1 := RR.at_ 1 rfl; have u2 := RS.at_ 0 rfl; have u3 := RS.at_ 1 rfl
          have U := Lib.hid (And.intro u0 (And.intro u1 (And.intro u2 u3)))
          have Y := Lib.hid (And.intro y0 y1)
          (refine wp_region_L (S := fun w' => w'.cell? ⟨g, 0, none⟩ = some (.bool bx) ∧ w'.cell? ⟨g, 1, none⟩ = some (.slice Ax nx cx) ∧ w'.cell? ⟨h, 0, none⟩ = some (.bool by') ∧ w'.cell? ⟨h, 1, none⟩ = some (.slice Ay ny cy)) (nl := 1000000) (by kernel_rfl) ?_ (fun hHeld => ?_); focus (exact ⟨hG.drew.at_ 0 rfl, hG.drew.at_ 1 rfl, hH.drew.at_ 0 rfl, hH.drew.at_ 1 rfl⟩))
          (refine wpAnyL_take (i := 0) (oi := _) (v := ?_) rfl (by kernel_rfl) (by kernel_rfl) (by kernel_rfl) (fun _ _ _ h => h) (Or.inl ⟨by first | rfl | kernel_rfl, ?hy61⟩) (by assumption) ?rs61; (case hy61 => (intro w hSw; (try dsimp only at hSw); go_simp; first | done | with_reducible rfl)); case' rs61 => (simp only [List.getElem_toArray, List.getElem_cons_zero, List.getElem_cons_succ, Act.put, List.setIfInBounds_toArray, List.set_cons_zero, List.set_cons_succ])); (refine wpAnyL_take (i := 1) (oi := _) (v := ?_) rfl (by kernel_rfl) (by kernel_rfl) (by kernel_rfl) (fun _ _ _ h => h) (Or.inl ⟨by first | rfl | kernel_rfl, ?hy62⟩) (by assumption) ?rs62; (case hy62 => (intro w hSw; (try dsimp only at hSw); go_simp; first | done | with_reducible rfl)); case' rs62 => (simp only [List.getElem_toArray, List.getElem_cons_zero, List.getElem_cons_succ, Act.put, List.setIfInBounds_toArray, List.set_cons_zero, List.set_cons_succ])); (refine wpAnyL_take (i := 2) (oi := _) (v := ?_) rfl (by kernel_rfl) (by kernel_rfl) (by kernel_rfl) (fun _ _ _ h => h) (Or.inl ⟨by first | rfl | kernel_rfl, ?hy63⟩) (by assumption) ?rs63; (case hy63 => (intro w hSw; (try dsimp only at hSw); go_simp; first | done | with_reducible rfl)); case' rs63 => (simp only [List.getElem_toArray, List.getElem_cons_zero, List.getElem_cons_succ, Act.put, List.setIfInBounds_toArray, List.set_cons_zero, List.set_cons_succ])); skip
          clear u0 u1 u2 u3 RR RS y0 y1 z0 z1 R0 R1 R1' hG hH hq hr D
          (refine wpAnyL_one (i := 3) (o := _) (by kernel_rfl) rfl (fun K hK => ?_); clear hHeld; simp only [List.getElem_toArray, List.getElem_cons_zero, List.getElem_cons_succ]; go_simp; refine hK.out _ _ ?_ (fun hHeld => ?_); focus (intro _; exact ⟨G1.drew.at_ 0 rfl, G1.drew.at_ 1 rfl, H1.drew.at_ 0 rfl, H1.drew.at_ 1 rfl⟩)); have hHeld := hHeld (by decide); clear hK K; (try simp only [Act.put, List.setIfInBounds_toArray, List.set_cons_zero, List.set_cons_succ])
          (refine wpAnyL_one (i := 4) (o := _) (by kernel_rfl) rfl (fun K hK => ?_); clear hHeld; simp only [List.getElem_toArray, List.getElem_cons_zero, List.getElem_cons_succ]; go_simp; refine hK.out _ _ ?_ (fun hHeld => ?_); focus (intro _; exact ⟨G2.drew.at_ 0 rfl, G2.drew.at_ 1 rfl, H2.drew.at_ 0 rfl, H2.drew.at_ 1 rfl⟩)); have hHeld := hHeld (by decide); clear hK K; (try simp only [Act.put, List.setIfInBounds_toArray, List.set_cons_zero, List.set_cons_succ])
          (refine wpAnyL_take (i := 5) (oi := _) (v := ?_) rfl (by kernel_rfl) (by kernel_rfl) (by kernel_rfl) (fun _ _ _ h => h) (Or.inl ⟨by first | rfl | kernel_rfl, ?hy64⟩) (by assumption) ?rs64; (case hy64 => (intro w hSw; (try dsimp only at hSw); go_simp; first | done | with_reducible rfl)); case' rs64 => (simp only [List.getElem_toArray, List.getElem_cons_zero, List.getElem_cons_succ, Act.put, List.setIfInBounds_toArray, List.set_cons_zero, List.set_cons_succ])); skip
          refine wpAnyL_done (by kernel_rfl) ?_ _
          go_wp2
          obtain ⟨u0, u1, u2, u3⟩ := U.out
          refine bodyPost_ret (v := .tuple #[.agg #[.bool bx, .slice Ax nx cx], .agg #[.bool by', .slice Ay ny cy], .int .i64 T]) (by simp [results, Tryz.results39, go_sem, u0, u1, u2, u3]) rfl ?_
          have hT := HT.out
          have eT : max ta tb = T := by split at hT <;> omega
          have e1 : (max ta tb - ta).toNat = 0 := by omega
          have e2 : (max ta tb - tb).toNat = 0 := by omega
          rw [e1, e2, eT]
          refine ⟨_, _, _, _, _, _, _, _, rfl, ?_, ?_, D2.out.drew⟩
          · rw [Int.pow_zero, Int.mul_one]; exact Y.out.1.drew
          · rw [Int.pow_zero, Int.mul_one]; exact Y.out.2.drew
end QC
end Go.Proofs.YtelblhgagpkjmaaGreatDoor

/-
  The reference's numbers over a power of two: QCmp, QAdd.
-/
namespace Go.Proofs.YtelblhgagpkjmaaGreatDoor
set_option linter.unusedVariables false
set_option linter.unusedSimpArgs false
open Go.RowKit
set_option linter.unusedVariables false
set_option linter.unusedSimpArgs false
namespace QC
open Z (Nz Tz cmpv big)
open ZC
/-- both over the greater power -/
def up (a ta tb : Int) : Int := a * 2 ^ (max ta tb - ta).toNat
theorem qbx2 (w : World) (b1 b2 : Bool) (A1 A2 : Option Addr) (n1 c1 n2 c2 : Nat) (t1 t2 : Int) :
    ∃ W0, (w.alloc (.cells #[.bool b1, .slice A1 n1 c1, .int .i64 t1] 41)).alloc (.cells #[.bool b2, .slice A2 n2 c2, .int .i64 t2] 41) = W0 ∧ Below w.heap.size w W0 := by
  obtain ⟨N1, N2, NS, NB⟩ := new2 w 41 41 #[.bool b1, .slice A1 n1 c1, .int .i64 t1] #[.bool b2, .slice A2 n2 c2, .int .i64 t2] 0
  rw [World.drewN_zero] at N1 N2 NS NB
  exact ⟨_, rfl, NB⟩
theorem QCmp_c (va vb : Value) (a b ta tb : Int) (w : World) (ha : QV w va a ta) (hb : QV w vb b tb) (bA : a.natAbs < big 500000) (bB : b.natAbs < big 500000) (h1 : 0 ≤ ta ∧ ta ≤ 100000) (h2 : 0 ≤ tb ∧ tb ≤ 100000)
    (k1 : (up a ta tb).natAbs < big 1000000) (k2 : (up b tb ta).natAbs < big 1000000) :
    Calls Tryz.prog 13 #[va, vb] w fun e w' => e = .returned (.int .i64 (cmpv (up a ta tb) (up b tb ta))) ∧ Below w.heap.size w w' := by
  have LVc : ∀ W, Below w.heap.size w W → Calls Tryz.prog 39 #[va, vb] W (RetLv W (up a ta tb) (up b tb ta) (max ta tb)) := fun W hW => by
    have ha' : QV W va a ta := by obtain ⟨b, A, n, c, e, h⟩ := ha; exact ⟨b, A, n, c, e, h.below hW⟩
    have hb' : QV W vb b tb := by obtain ⟨b, A, n, c, e, h⟩ := hb; exact ⟨b, A, n, c, e, h.below hW⟩
    have := level_c va vb a b ta tb W ha' hb' bA bB h1 h2
    rw [show (max ta tb - tb) = max tb ta - tb by omega] at this
    exact this
  obtain ⟨b1, A1, n1, c1, rfl, hv1⟩ := ha
  obtain ⟨b2, A2, n2, c2, rfl, hv2⟩ := hb
  obtain ⟨W0, hW0, D0⟩ := qbx2 w b1 b2 A1 A2 n1 c1 n2 c2 ta tb
  have LC := Lib.hid (LVc W0 D0)
  have CP : Hid (∀ (W : World) (u v : Value), ZV W u (up a ta tb) → ZV W v (up b tb ta) → Calls Tryz.prog 34 #[u, v] W fun e w' => e = .returned (.int .i64 (cmpv (up a ta tb) (up b tb ta))) ∧ Below W.heap.size W w') := fun W u v h1 h2 => ZCmp_c u v _ _ W h1 h2 k1 k2
  have HW0 := Lib.hid hW0
  have D0 := Lib.hid D0
  generalize up a ta tb = x at *
  generalize up b tb ta = y at *
  generalize cmpv x y = r at *
  clear hv1 hv2 hW0 bA bB h1 h2 k1 k2 LVc
  go_enter Tryz.func13, Tryz.ntmps13
  go_wp2_with (first
    | (go_at_call 39; rw [HW0.out]; (with_reducible refine (LC.out).mono ?_); rintro e w2 ⟨bx, Ax, nx, cx, by', Ay, ny, cy, rfl, hx, hy, hb⟩; have hx := (hx.alloc (.cells #[.bool bx, .slice Ax nx cx] 39)).alloc (.cells #[.bool by', .slice Ay ny cy] 39); have hy := (hy.alloc (.cells #[.bool bx, .slice Ax nx cx] 39)).alloc (.cells #[.bool by', .slice Ay ny cy] 39); have D := Lib.hid ((hb.alloc hb.size (.cells #[.bool bx, .slice Ax nx cx] 39)).alloc ((hb.alloc hb.size (.cells #[.bool bx, .slice Ax nx cx] 39)).size) (.cells #[.bool by', .slice Ay ny cy] 39)))
    | (go_at_call 34; (with_reducible refine (CP.out _ _ _ hx.v hy.v).mono ?_); rintro e w3 ⟨rfl, hb3⟩))
  go_ret
  exact ⟨rfl, D0.out.trans ((D.out.trans (hb3.mono D.out.size)).mono D0.out.size)⟩
end QC
end Go.Proofs.YtelblhgagpkjmaaGreatDoor

/-
  The reference's numbers over a power of two: QAdd, QNeg, QAbs, QShift.
-/
namespace Go.Proofs.YtelblhgagpkjmaaGreatDoor
set_option linter.unusedVariables false
set_option linter.unusedSimpArgs false
open Go.RowKit
set_option linter.unusedVariables false
set_option linter.unusedSimpArgs false
namespace QC
open Z (Nz Tz cmpv big)
open ZC
theorem last_ne {L : List Int} (h : Nz L) (hne : L ≠ []) : L.getD (L.length - 1) 0 ≠ 0 := by
  have := h hne
  rw [List.getD_eq_getElem?_getD, List.getElem?_eq_getElem (by have := List.length_pos_iff.2 hne; omega)]
  rw [List.getLast_eq_getElem] at this
  exact this
theorem cell_q {w : World} {p : Addr} {T : TypeId} {b0 : Bool} {A0 : Option Addr} {n0 c0 : Nat} {y : Int} (hb : Blk w p.block T #[.bool b0, .slice A0 n0 c0, .int .i64 0]) (k : w.cell? p = some (.int .i64 y)) : y = 0 := by
  unfold World.cell? at k
  unfold Blk at hb
  rw [hb] at k
  simp only at k
  split at k
  · cases k
  · match hp : p.off, k with
    | 0, h => simp at h
    | 1, h => simp at h
    | 2, h => simp at h; exact h.symm
    | i + 3, h => simp at h
/-- digits don't lie in a box whose third cell is 0 -/
theorem off_q {w : World} {b A n c z} {g : Nat} {T : TypeId} {b0 : Bool} {A0 : Option Addr} {n0 c0 : Nat} (h : ZL w b A n c z) (hb : Blk w g T #[.bool b0, .slice A0 n0 c0, .int .i64 0]) : Off g A n := by
  obtain ⟨-, L, hn, ⟨A', c', e, hc, hr⟩, hd, hz, -⟩ := h
  injection e with e1 e2 e3
  subst e1
  rcases hr with h0 | ⟨ad, rfl, hlt, hcell⟩
  · left; rw [hn, h0]; rfl
  · by_cases h0 : L = []
    · left; rw [hn, h0]; rfl
    · right
      refine ⟨ad, rfl, fun hg => ?_⟩
      have hl := List.length_pos_iff.2 h0
      have k := hcell (L.length - 1) (by omega)
      have nz := last_ne hz h0
      rw [List.getD_eq_getElem?_getD, List.getElem?_eq_getElem (by omega)] at nz
      exact nz (cell_q (by rw [block_of_add, hg]; exact hb) k)
theorem zv_off {w : World} {v : Value} {z : Int} {g : Nat} {T : TypeId} {b0 : Bool} {A0 : Option Addr} {n0 c0 : Nat} (h : ZV w v z) (hb : Blk w g T #[.bool b0, .slice A0 n0 c0, .int .i64 0]) : ∃ b A n c, v = .agg #[.bool b, .slice A n c] ∧ ZL w b A n c z ∧ Off g A n := by
  obtain ⟨b, A, n, c, e, h⟩ := h
  exact ⟨b, A, n, c, e, h, off_q h hb⟩
theorem qv_below {w w' : World} {v : Value} {z t : Int} (h : QV w v z t) (hb : Below w.heap.size w w') : QV w' v z t := by
  obtain ⟨b, A, n, c, e, h⟩ := h
  exact ⟨b, A, n, c, e, h.below hb⟩
set_option maxRecDepth 100000 in
theorem QAdd_c (va vb : Value) (a b ta tb : Int) (w : World) (ha : QV w va a ta) (hb : QV w vb b tb) (bA : a.natAbs < big 500000) (bB : b.natAbs < big 500000) (h1 : 0 ≤ ta ∧ ta ≤ 100000) (h2 : 0 ≤ tb ∧ tb ≤ 100000)
    (k1 : (up a ta tb).natAbs < big 1000000) (k2 : (up b tb ta).natAbs < big 1000000) :
    Calls Tryz.prog 32 #[va, vb] w (RetV w (up a ta tb + up b tb ta) (max ta tb)) := by
  have LVc : ∀ W, Below w.heap.size w W → Calls Tryz.prog 39 #[va, vb] W (RetLv W (up a ta tb) (up b tb ta) (max ta tb)) := fun W hW => by
    have := level_c va vb a b ta tb W (qv_below ha hW) (qv_below hb hW) bA bB h1 h2
    rw [show (max ta tb - tb) = max tb ta - tb by omega] at this
    exact this
  obtain ⟨b1, A1, n1, c1, rfl, hv1⟩ := ha
  obtain ⟨b2, A2, n2, c2, rfl, hv2⟩ := hb
  obtain ⟨W0, hW0, D0, HS, KB⟩ := qbox2 w b1 b2 A1 A2 n1 c1 n2 c2 ta tb
  have LC := Lib.hid (LVc W0 D0)
  have CP : Hid (∀ (W : World) (u v : Value), ZV W u (up a ta tb) → ZV W v (up b tb ta) → Calls Tryz.prog 53 #[u, v] W (RetZ W (up a ta tb + up b tb ta))) := fun W u v h1 h2 => ZAdd_c u v _ _ W h1 h2 k1 k2
  have HW0 := Lib.hid hW0
  have D0 := Lib.hid D0
  have KB := Lib.hid KB
  generalize up a ta tb = x at *
  generalize up b tb ta = y at *
  generalize x + y = r at *
  obtain ⟨T, hT⟩ : ∃ T, max ta tb = T := ⟨_, rfl⟩
  rw [hT] at LC ⊢
  clear hv1 hv2 hW0 bA bB h1 h2 k1 k2 LVc HS hT
  go_enter Tryz.func32, Tryz.ntmps32
  go_wp2_with (first
    | (go_at_call 39; rw [HW0.out]; (with_reducible refine (LC.out).mono ?_); rintro e w2 ⟨bx, Ax, nx, cx, by', Ay, ny, cy, rfl, hx, hy, hb⟩; have hx := (hx.alloc (.cells #[.bool bx, .slice Ax nx cx] 39)).alloc (.cells #[.bool by', .slice Ay ny cy] 39); have hy := (hy.alloc (.cells #[.bool bx, .slice Ax nx cx] 39)).alloc (.cells #[.bool by', .slice Ay ny cy] 39); have D := Lib.hid ((hb.alloc hb.size (.cells #[.bool bx, .slice Ax nx cx] 39)).alloc ((hb.alloc hb.size (.cells #[.bool bx, .slice Ax nx cx] 39)).size) (.cells #[.bool by', .slice Ay ny cy] 39)))
    | (go_at_call 53; (with_reducible refine (CP.out _ _ _ hx.v hy.v).mono ?_); rintro e w3 ⟨_, rfl, ⟨b3, A3, n3, c3, rfl, hr⟩, hb3⟩; have D := Lib.hid (D.out.trans (hb3.mono D.out.size)); have R := (KB.out _ D.out).2; have X := Lib.hid (set3 hr.zl (off_q hr.zl R) (.bool b3) (.slice A3 n3 c3) (.int .i64 T)); have f0 := R.frozen 0; have f1 := R.frozen 1; have f2 := R.frozen 2; have t0 := R.at_ 0 rfl; have t1 := R.at_ 1 rfl; have t2 := R.at_ 2 rfl))
  exact bodyPost_ret (v := .agg #[.bool b3, .slice A3 n3 c3, .int .i64 T]) (by simp [results, Tryz.results32, go_sem, t0, t1, t2]) rfl
    ⟨_, _, _, _, rfl, X.out, below3q (D0.out.trans (D.out.mono D0.out.size)) (by omega) _ _ _⟩
set_option maxRecDepth 100000 in
theorem QNeg_c (va : Value) (a ta : Int) (w : World) (ha : QV w va a ta) (bA : a.natAbs < big 1000000) :
    Calls Tryz.prog 132 #[va] w (RetV w (-a) ta) := by
  obtain ⟨b1, A1, n1, c1, rfl, hv1⟩ := ha
  obtain ⟨W0, hW0, D0, HS, KB⟩ := qbox1 w b1 A1 n1 c1 ta
  have VA : Hid (∀ W, Below W0.heap.size W0 W → ZV W (.agg #[.bool b1, .slice A1 n1 c1]) a) := fun W h => (((hv1.below D0).below h)).v
  have NG : Hid (∀ (W : World) (u : Value), ZV W u a → Calls Tryz.prog 55 #[u] W (RetZ0 W (-a))) := fun W u h1 => ZNeg_c u _ W h1 bA
  have HW0 := Lib.hid hW0
  have D0 := Lib.hid D0
  have KB := Lib.hid KB
  generalize -a = r at *
  clear hv1 bA hW0 HS
  go_enter Tryz.func132, Tryz.ntmps132
  go_upto_region 1 with fail
  rw [HW0.out]
  have D : Below W0.heap.size W0 W0.drew := (Below.refl _ _).drew
  (refine wp_region_L (S := fun w' => w'.cell? ⟨w.heap.size, 0, none⟩ = some (.bool b1) ∧ w'.cell? ⟨w.heap.size, 1, none⟩ = some (.slice A1 n1 c1) ∧ w'.cell? ⟨w.heap.size, 2, none⟩ = some (.int .i64 ta)) (nl := 1000000) (by kernel_rfl) ?_ (fun hHeld => ?_); focus (exact (KB.out _ D).1))
  (refine wpAnyL_take (i := 0) (oi := _) (v := ?_) rfl (by kernel_rfl) (by kernel_rfl) (by kernel_rfl) (fun _ _ _ h => h) (Or.inl ⟨by first | rfl | kernel_rfl, ?hy65⟩) (by assumption) ?rs65; (case hy65 => (intro w hSw; (try dsimp only at hSw); go_simp; first | done | with_reducible rfl)); case' rs65 => (simp only [List.getElem_toArray, List.getElem_cons_zero, List.getElem_cons_succ, Act.put, List.setIfInBounds_toArray, List.set_cons_zero, List.set_cons_succ])); (refine wpAnyL_take (i := 1) (oi := _) (v := ?_) rfl (by kernel_rfl) (by kernel_rfl) (by kernel_rfl) (fun _ _ _ h => h) (Or.inl ⟨by first | rfl | kernel_rfl, ?hy66⟩) (by assumption) ?rs66; (case hy66 => (intro w hSw; (try dsimp only at hSw); go_simp; first | done | with_reducible rfl)); case' rs66 => (simp only [List.getElem_toArray, List.getElem_cons_zero, List.getElem_cons_succ, Act.put, List.setIfInBounds_toArray, List.set_cons_zero, List.set_cons_succ])); (refine wpAnyL_take (i := 3) (oi := _) (v := ?_) rfl (by kernel_rfl) (by kernel_rfl) (by kernel_rfl) (fun _ _ _ h => h) (Or.inl ⟨by first | rfl | kernel_rfl, ?hy67⟩) (by assumption) ?rs67; (case hy67 => (intro w hSw; (try dsimp only at hSw); go_simp; first | done | with_reducible rfl)); case' rs67 => (simp only [List.getElem_toArray, List.getElem_cons_zero, List.getElem_cons_succ, Act.put, List.setIfInBounds_toArray, List.set_cons_zero, List.set_cons_succ])); (refine wpAnyL_take (i := 4) (oi := _) (v := ?_) rfl (by kernel_rfl) (by kernel_rfl) (by kernel_rfl) (fun _ _ _ h => h) (Or.inl ⟨by first | rfl | kernel_rfl, ?hy68⟩) (by assumption) ?rs68; (case hy68 => (intro w hSw; (try dsimp only at hSw); go_simp; first | done | with_reducible rfl)); case' rs68 => (simp only [List.getElem_toArray, List.getElem_cons_zero, List.getElem_cons_succ, Act.put, List.setIfInBounds_toArray, List.set_cons_zero, List.set_cons_succ])); skip
  (refine wpAnyL_one (i := 2) (o := _) (by kernel_rfl) rfl (fun K hK => ?_); clear hHeld; simp only [List.getElem_toArray, List.getElem_cons_zero, List.getElem_cons_succ]; go_simp; (go_at_call 55; (with_reducible refine (NG.out _ _ (VA.out _ D)).mono ?_); rintro e w2 ⟨_, rfl, hr, hb2⟩; have D1 := D.size; have D := D.trans (hb2.mono D.size); obtain ⟨b3, A3, n3, c3, rfl, hr, of⟩ := zv_off hr (KB.out _ D).2); refine hK.out _ _ ?_ (fun hHeld => ?_); focus (intro _; exact (KB.out _ D).1)); have hHeld := hHeld (by decide); clear hK K; (try simp only [Act.put, List.setIfInBounds_toArray, List.set_cons_zero, List.set_cons_succ])
  (refine wpAnyL_take (i := 5) (oi := _) (v := ?_) rfl (by kernel_rfl) (by kernel_rfl) (by kernel_rfl) (fun _ _ _ h => h) (Or.inl ⟨by first | rfl | kernel_rfl, ?hy69⟩) (by assumption) ?rs69; (case hy69 => (intro w hSw; (try dsimp only at hSw); go_simp; first | done | with_reducible rfl)); case' rs69 => (simp only [List.getElem_toArray, List.getElem_cons_zero, List.getElem_cons_succ, Act.put, List.setIfInBounds_toArray, List.set_cons_zero, List.set_cons_succ])); skip
  have R := (KB.out _ D).2
  have f0 := R.frozen 0; have f1 := R.frozen 1; have f2 := R.frozen 2; have t0 := R.at_ 0 rfl; have t1 := R.at_ 1 rfl; have t2 := R.at_ 2 rfl
  have X := Lib.hid (set3 hr of (.bool b3) (.slice A3 n3 c3) (.int .i64 ta))
  have D := Lib.hid D
  (refine wpAnyL_one (i := 6) (o := _) (by kernel_rfl) rfl (fun K hK => ?_); clear hHeld; simp only [List.getElem_toArray, List.getElem_cons_zero, List.getElem_cons_succ]; go_simp; refine hK.out _ _ ?_ (fun hHeld => ?_); focus (intro _; (obtain ⟨s0, s1, s2⟩ := (KB.out _ D.out).1; refine ⟨?_, ?_, ?_⟩ <;> (repeat rw [World.cell?_setCell_other _ _ _ _ (by simp)]) <;> assumption))); have hHeld := hHeld (by decide); clear hK K; (try simp only [Act.put, List.setIfInBounds_toArray, List.set_cons_zero, List.set_cons_succ])
  refine wpAnyL_done (by kernel_rfl) ?_ _
  go_wp2
  exact bodyPost_ret (v := .agg #[.bool b3, .slice A3 n3 c3, .int .i64 ta]) (by simp [results, Tryz.results132, go_sem, t0, t1, t2]) rfl
    ⟨_, _, _, _, rfl, X.out, below3q (D0.out.trans (D.out.mono D0.out.size)) (by omega) _ _ _⟩
set_option maxRecDepth 100000 in
theorem QShift_c (va : Value) (a ta n : Int) (w : World) (ha : QV w va a ta) (bA : a.natAbs < big 1000000) (h1 : 0 ≤ ta ∧ ta ≤ 40000) (h2 : -40000 ≤ n ∧ n ≤ 40000) :
    Calls Tryz.prog 125 #[va, .int .i64 n] w (RetV w (mkz a (n - ta)) (mkt (n - ta))) := by
  obtain ⟨b1, A1, n1, c1, rfl, hv1⟩ := ha
  obtain ⟨W0, hW0, D0, HS, KB⟩ := qbox1 w b1 A1 n1 c1 ta
  have MK : Hid (∀ W, Below W0.heap.size W0 W → Calls Tryz.prog 27 #[.agg #[.bool b1, .slice A1 n1 c1], .int .i64 (n - ta)] W (RetV W (mkz a (n - ta)) (mkt (n - ta)))) := fun W h => QMake_c _ a (n - ta) W (((hv1.below D0).below h)).v bA (by omega) (by omega)
  have i1 : IntKind.i64.wrap (n - ta) = n - ta := IntWalk.i64_in _ (by omega)
  have HW0 := Lib.hid hW0
  have D0 := Lib.hid D0
  have KB0 := KB _ (Below.refl _ _)
  have KB := Lib.hid KB
  have D := Lib.hid (Below.refl W0.heap.size W0)
  generalize mkz a (n - ta) = r at *
  generalize mkt (n - ta) = T at *
  rw [← hW0] at KB0
  obtain ⟨⟨p0, p1, p2⟩, -⟩ := KB0
  clear hv1 bA hW0 HS h1 h2
  go_enter Tryz.func125, Tryz.ntmps125
  go_wp2_with (first
    | (go_at_call 27; rw [HW0.out]; (with_reducible refine (MK.out _ D.out).mono ?_); rintro e w2 ⟨b3, A3, n3, c3, rfl, hr, hb3⟩; have D := Lib.hid (D.out.trans (hb3.mono D.out.size)); have R := (KB.out _ D.out).2; have X := Lib.hid (set3 hr (off_q hr R) (.bool b3) (.slice A3 n3 c3) (.int .i64 T)); have f0 := R.frozen 0; have f1 := R.frozen 1; have f2 := R.frozen 2; have t0 := R.at_ 0 rfl; have t1 := R.at_ 1 rfl; have t2 := R.at_ 2 rfl))
  exact bodyPost_ret (v := .agg #[.bool b3, .slice A3 n3 c3, .int .i64 T]) (by simp [results, Tryz.results125, go_sem, t0, t1, t2]) rfl
    ⟨_, _, _, _, rfl, X.out, below3q (D0.out.trans (D.out.mono D0.out.size)) (by omega) _ _ _⟩
end QC
end Go.Proofs.YtelblhgagpkjmaaGreatDoor

