/-
  Texts glued together for a claim: Z13 Str Z11 Z12 ZSg NPure NMem N1 N2 NBits N3 NCopy N4 N5 NRow.
-/
import Derived.Test.YtnpeokgjfnobmaaDoorT1
import Derived.Laws.Concat
import Derived.Laws.Strings2
import Derived.Laws.Strings
import Derived.WalkLawsBesides
import Derived.LoopTactic
import Derived.Lib.Hide
import Derived.Outline
import Derived.RegionTactic
import Derived.BigRegion
import Derived.Deep.QuietTactic
import Derived.BigQuiet
import Derived.Test.YtnpeokgjfnobmaaDoorProg
import Derived.WalkKit
import Derived.Lib.EndianBits
import Derived.Laws.CopyOwn
/-
  The reference's whole numbers: how often, and what is left (ZDiv).
-/
namespace Go.Proofs.YtnpeokgjfnobmaaDoor
set_option linter.unusedVariables false
set_option linter.unusedSimpArgs false
open Go.RowKit
set_option linter.unusedVariables false
theorem Sl.drew {k : IntKind} {w : World} {s : Value} {L : List Int} (h : Sl k w s L) : Sl k w.drew s L := h
namespace ZC
open Z
/-- the memory of a division under way: the boxes of what was handed in and of the results; from g on: the box of the divisor without its sign, the quotient's digits, its box, the remainder's box -/
structure DM (w w1 wr : World) (g n : Nat) (xa xb vb vr : Array Value) (QL : List Int) : Prop where
  b0 : Blk wr w.heap.size 34 xa
  b1 : Blk wr (w.heap.size + 1) 34 xb
  b2 : Blk wr (w.heap.size + 2) 34 #[.bool false, .slice none 0 0]
  b3 : Blk wr (w.heap.size + 3) 34 #[.bool false, .slice none 0 0]
  bb : Blk wr g 34 vb
  bs : Row .i64 3 wr (g + 1) QL
  bq : Blk wr (g + 2) 34 #[.bool false, .slice (some ⟨g + 1, 0, none⟩) n n]
  br : Blk wr (g + 3) 34 vr
  hg : w.heap.size + 4 ≤ g
  lo : Below w.heap.size w wr
  bw : Below g w1 wr
section
variable {w w1 wr w' : World} {g n : Nat} {xa xb vb vr : Array Value} {QL : List Int}
theorem DM.sz (h : DM w w1 wr g n xa xb vb vr QL) : g + 4 ≤ wr.heap.size := h.br.lt
theorem DM.below (h : DM w w1 wr g n xa xb vb vr QL) (hb : Below wr.heap.size wr w') : DM w w1 w' g n xa xb vb vr QL :=
  ⟨h.b0.below hb h.b0.lt, h.b1.below hb h.b1.lt, h.b2.below hb h.b2.lt, h.b3.below hb h.b3.lt, h.bb.below hb h.bb.lt, Blk.below h.bs hb h.bs.lt, h.bq.below hb h.bq.lt, h.br.below hb h.br.lt, h.hg, h.lo.trans (hb.mono h.lo.size), h.bw.trans (hb.mono (by have := h.sz; omega))⟩
theorem DM.alloc (h : DM w w1 wr g n xa xb vb vr QL) (o : Obj) : DM w w1 (wr.alloc o) g n xa xb vb vr QL := h.below (below1 _ _)
theorem DM.drew (h : DM w w1 wr g n xa xb vb vr QL) : DM w w1 wr.drew g n xa xb vb vr QL := ⟨h.b0, h.b1, h.b2, h.b3, h.bb, h.bs, h.bq, h.br, h.hg, h.lo.drew, h.bw.drew⟩
theorem DM.high (h : DM w w1 wr g n xa xb vb vr QL) {p : Addr} (hp : g + 4 ≤ p.block) (u : Value) : DM w w1 (wr.setCell p u) g n xa xb vb vr QL := by
  have := h.hg
  exact ⟨h.b0.far (by omega) u, h.b1.far (by omega) u, h.b2.far (by omega) u, h.b3.far (by omega) u, h.bb.far (by omega) u, Blk.far h.bs (by omega) u, h.bq.far (by omega) u, h.br.far (by omega) u, h.hg, h.lo.setCell (by omega) u, h.bw.setCell (by omega) u⟩
theorem DM.setR {r0 r1 : Value} (h : DM w w1 wr g n xa xb vb #[r0, r1] QL) (x y : Value) : DM w w1 ((wr.setCell ⟨g + 3, 0, none⟩ x).setCell ⟨g + 3, 1, none⟩ y) g n xa xb vb #[x, y] QL := by
  have := h.hg
  exact ⟨h.b0.far2 (by omega) x y, h.b1.far2 (by omega) x y, h.b2.far2 (by omega) x y, h.b3.far2 (by omega) x y, h.bb.far2 (by omega) x y, Blk.far2 h.bs (by omega) x y, h.bq.far2 (by omega) x y, h.br.set2 x y, h.hg, below_set2 h.lo (by omega) x y, below_set2 h.bw (by omega) x y⟩
theorem DM.setQ (h : DM w w1 wr g n xa xb vb vr QL) (j : Nat) (z : Int) : DM w w1 (wr.setCell ⟨g + 1, j, none⟩ (.int .i64 z)) g n xa xb vb vr (QL.set j z) := by
  have := h.hg
  exact ⟨h.b0.far (by simp; omega) _, h.b1.far (by simp; omega) _, h.b2.far (by simp; omega) _, h.b3.far (by simp; omega) _, h.bb.far (by simp) _, h.bs.set_ j z, h.bq.far (by simp) _, h.br.far (by simp) _, h.hg, h.lo.setCell (by simp; omega) _, h.bw.setCell (by simp) _⟩
theorem DM.drewN (h : DM w w1 wr g n xa xb vb vr QL) (q : Nat) : DM w w1 (wr.drewN q) g n xa xb vb vr QL := ⟨h.b0, h.b1, h.b2, h.b3, h.bb, h.bs, h.bq, h.br, h.hg, below_drewN h.lo q, below_drewN h.bw q⟩
end
theorem Sl.one (k : IntKind) (e : TypeId) (w : World) (z : Int) : Sl k (w.alloc (.cells #[.int k z] e)) (.slice (some ⟨w.heap.size, 0, none⟩) 1 1) [z] := by
  refine ⟨_, 1, rfl, by simp, .inr ⟨_, rfl, by simp, fun j hj => ?_⟩⟩
  obtain rfl : j = 0 := by simpa using hj
  have := Blk.at_ (Blk.new w e #[.int k z]) 0 rfl
  rw [show (⟨w.heap.size, 0, none⟩ : Addr).add 0 = ⟨w.heap.size, 0, none⟩ by unfold Addr.add; simp]
  exact this
theorem ZL.box {w1 : World} {b A n c z} (hv : ZL w1 b A n c z) {B : Nat} {b0 : Bool} {A0 : Option Addr} {n0 c0 : Nat} (h0 : w1.cell? ⟨B, 0, none⟩ = some (.bool b0)) (h1 : w1.cell? ⟨B, 1, none⟩ = some (.slice A0 n0 c0)) (u v : Value) :
    ZL ((w1.setCell ⟨B, 0, none⟩ u).setCell ⟨B, 1, none⟩ v) b A n c z :=
  (hv.setCell h0 (fun z h => by cases h) _).setCell (p := ⟨B, 1, none⟩) (u := .slice A0 n0 c0) (by rw [World.cell?_setCell_other _ _ _ _ (by simp)]; exact h1) (fun z h => by cases h) _
theorem big_add (n m : Nat) : big (n + m) = big n * big m := by unfold big; rw [Nat.pow_add]
theorem big_mono {n m : Nat} (h : n ≤ m) : big n ≤ big m := by unfold big; exact Nat.pow_le_pow_right (by decide) h
theorem big3 : big 3 = 1000000000000 := by unfold big; decide
theorem mul_bnd {b : Nat} {t : Int} (hb : b < big 900000) (h0 : 0 ≤ t) (h1 : t ≤ 100000001) : (t * (b : Int)).natAbs < big 1000000 := by
  have h2 := big_add 900000 3
  have h3 := big_mono (show 900000 + 3 ≤ 1000000 by decide)
  rw [Int.natAbs_mul, Int.natAbs_natCast, big3] at *
  have h4 : t.natAbs * b ≤ 1000000000000 * b := Nat.mul_le_mul_right _ (by omega)
  have h5 : big 900000 * 1000000000000 = 1000000000000 * big 900000 := Nat.mul_comm _ _
  omega
theorem succ_bnd {t : Int} (h0 : 0 ≤ t) (h : t.natAbs < big 900000) : (t + 1).natAbs < big 1000000 := by
  have h1 := big_add 900000 1
  have h2 : big 1 = 10000 := by unfold big; rfl
  have h3 := big_mono (show 900000 + 1 ≤ 1000000 by decide)
  rw [h2] at h1
  omega
theorem size_z {W : World} {bp br : Bool} {Ap Ar : Option Addr} {np cp nr cr : Nat} {p r : Int} (hp : ZL W bp Ap np cp p) (hr : ZL W br Ar nr cr r) (p0 : 0 ≤ p) (r0 : 0 ≤ r) (pb : p.natAbs < big 1000000) (rb : r.natAbs < big 1000000) :
    Calls Tryd.prog 62 #[.slice Ap np cp, .slice Ar nr cr] W (RetQ W (.int .i64 (cmpv p r))) := by
  have l1 := hp.len pb
  have l2 := hr.len rb
  obtain ⟨_, L, hn, hs, hd, hz, hv⟩ := hp
  obtain ⟨_, M, hm, ht, hd', hz', hv'⟩ := hr
  have := size_c _ _ L M W hs ht hd hd' hz hz' (by omega) (by omega)
  rw [hv, hv', show ((p.natAbs : Nat) : Int) = p by omega, show ((r.natAbs : Nat) : Int) = r by omega] at this
  exact this
theorem ZLF.far {w : World} {B : Nat} {b A n c z} (h : ZLF w B b A n c z) {p : Addr} (hp : p.block < B) (u : Value) : ZL (w.setCell p u) b A n c z := by
  refine h.1.keep fun L hs => ?_
  obtain ⟨A', c', e, hc, hs⟩ := hs
  refine ⟨A', c', e, hc, ?_⟩
  rcases hs with rfl | ⟨ad, rfl, hb, hr⟩
  · exact .inl rfl
  · rcases h.2 with h0 | ⟨ad', e', hb'⟩
    · injection e with e1 e2
      exact .inl (List.eq_nil_of_length_eq_zero (by omega))
    · injection e with e1 e2
      rw [e'] at e1
      injection e1 with e1
      subst e1
      refine .inr ⟨_, rfl, by simpa [World.setCell] using hb, fun j hj => ?_⟩
      rw [World.cell?_setCell_far _ _ _ _ (by rw [block_of_add]; omega)]
      exact hr j hj
theorem ZL.zero {w : World} {b A n c z} (h : ZL w b A n c z) : (n = 0 → z = 0) ∧ (0 < n → z ≠ 0) := by
  obtain ⟨_, L, hn, _, hd, hz, hv⟩ := h
  constructor
  · intro h0
    obtain rfl := List.eq_nil_of_length_eq_zero (by omega : L.length = 0)
    simp [val] at hv; omega
  · intro h0
    have := val_pos hd hz (List.length_pos_iff.1 (by omega))
    omega
/-- the memory of a division near its end: the quotient's box holds whatever -/
structure TM (w w1 wr : World) (g : Nat) (xa xb vb vq vr : Array Value) : Prop where
  b0 : Blk wr w.heap.size 34 xa
  b1 : Blk wr (w.heap.size + 1) 34 xb
  b2 : Blk wr (w.heap.size + 2) 34 #[.bool false, .slice none 0 0]
  b3 : Blk wr (w.heap.size + 3) 34 #[.bool false, .slice none 0 0]
  bb : Blk wr g 34 vb
  bq : Blk wr (g + 2) 34 vq
  br : Blk wr (g + 3) 34 vr
  hg : w.heap.size + 4 ≤ g
  lo : Below w.heap.size w wr
  bw : Below g w1 wr
section
variable {w w1 wr w' : World} {g n : Nat} {xa xb vb vq vr : Array Value} {QL : List Int}
theorem TM.of (h : DM w w1 wr g n xa xb vb vr QL) : TM w w1 wr g xa xb vb #[.bool false, .slice (some ⟨g + 1, 0, none⟩) n n] vr := ⟨h.b0, h.b1, h.b2, h.b3, h.bb, h.bq, h.br, h.hg, h.lo, h.bw⟩
theorem TM.sz (h : TM w w1 wr g xa xb vb vq vr) : g + 4 ≤ wr.heap.size := h.br.lt
theorem TM.below (h : TM w w1 wr g xa xb vb vq vr) (hb : Below wr.heap.size wr w') : TM w w1 w' g xa xb vb vq vr :=
  ⟨h.b0.below hb h.b0.lt, h.b1.below hb h.b1.lt, h.b2.below hb h.b2.lt, h.b3.below hb h.b3.lt, h.bb.below hb h.bb.lt, h.bq.below hb h.bq.lt, h.br.below hb h.br.lt, h.hg, h.lo.trans (hb.mono h.lo.size), h.bw.trans (hb.mono (by have := h.sz; omega))⟩
theorem TM.drew (h : TM w w1 wr g xa xb vb vq vr) : TM w w1 wr.drew g xa xb vb vq vr := ⟨h.b0, h.b1, h.b2, h.b3, h.bb, h.bq, h.br, h.hg, h.lo.drew, h.bw.drew⟩
theorem TM.setQ {q0 q1 : Value} (h : TM w w1 wr g xa xb vb #[q0, q1] vr) (x y : Value) : TM w w1 ((wr.setCell ⟨g + 2, 0, none⟩ x).setCell ⟨g + 2, 1, none⟩ y) g xa xb vb #[x, y] vr := by
  have := h.hg
  exact ⟨h.b0.far2 (by omega) x y, h.b1.far2 (by omega) x y, h.b2.far2 (by omega) x y, h.b3.far2 (by omega) x y, h.bb.far2 (by omega) x y, h.bq.set2 x y, h.br.far2 (by omega) x y, h.hg, below_set2 h.lo (by omega) x y, below_set2 h.bw (by omega) x y⟩
theorem TM.setR {r0 r1 : Value} (h : TM w w1 wr g xa xb vb vq #[r0, r1]) (x y : Value) : TM w w1 ((wr.setCell ⟨g + 3, 0, none⟩ x).setCell ⟨g + 3, 1, none⟩ y) g xa xb vb vq #[x, y] := by
  have := h.hg
  exact ⟨h.b0.far2 (by omega) x y, h.b1.far2 (by omega) x y, h.b2.far2 (by omega) x y, h.b3.far2 (by omega) x y, h.bb.far2 (by omega) x y, h.bq.far2 (by omega) x y, h.br.set2 x y, h.hg, below_set2 h.lo (by omega) x y, below_set2 h.bw (by omega) x y⟩
end
theorem field_z (b : Bool) (A : Option Addr) (n c : Nat) (W : World) : (Instr.field 34 (.agg #[.bool b, .slice A n c]) 1).run Tryd.prog W = .ok (.slice A n c) W := by kernel_rfl
def RetZZ (w : World) (q r : Int) (e : Ending) (w' : World) : Prop := ∃ u v, e = .returned (.tuple #[u, v]) ∧ ZV w' u q ∧ ZV w' v r ∧ Below w.heap.size w w'
set_option maxRecDepth 100000 in
set_option maxHeartbeats 8000000 in
theorem ZDiv_c (va vb : Value) (a b : Int) (w : World) (ha : ZV w va a) (hb : ZV w vb b) (bA : a.natAbs < big 900000) (bB : b.natAbs < big 900000) (h0 : b ≠ 0) :
    Calls Tryd.prog 24 #[va, vb] w (RetZZ w (a / b) (a % b)) := by
  obtain ⟨x, A, n, c, rfl, ha⟩ := ha
  obtain ⟨y, B, m, d, rfl, hb⟩ := hb
  have lA := ha.len bA
  have lB := hb.len bB
  have ABS := Lib.hid (fun W (h : Below w.heap.size w W) => ZAbs_c _ b W (hb.below h).v)
  have hmk := run_make_row' (P := Tryd.prog) 32 3 (.int .i64 0) 8 Tryd.underlying32 (by kernel_rfl) rfl .i64 .i64 n (by omega) (by omega)
  have BBB := Lib.hid bB
  have BAA := Lib.hid bA
  have HYB := Lib.hid hb.1
  clear bA bB
  obtain ⟨N0, N1, N2, N3, N4⟩ := new3 w 34 34 34 #[.bool x, .slice A n c] #[.bool y, .slice B m d] #[.bool false, .slice none 0 0] 0
  have N0 := Lib.hid (N0.alloc (.cells #[.bool false, .slice none 0 0] 34))
  have N1 := Lib.hid (N1.alloc (.cells #[.bool false, .slice none 0 0] 34))
  have N2 := Lib.hid (N2.alloc (.cells #[.bool false, .slice none 0 0] 34))
  have N5 := Lib.hid (Blk.new' ((((w.alloc (.cells #[.bool x, .slice A n c] 34)).alloc (.cells #[.bool y, .slice B m d] 34)).alloc (.cells #[.bool false, .slice none 0 0] 34)).drewN 0) 34 #[.bool false, .slice none 0 0] (g := w.heap.size + 3) N3)
  have N4 := Lib.hid (N4.alloc (by rw [N3]; omega) (.cells #[.bool false, .slice none 0 0] 34))
  clear N3
  go_enter Tryd.func24, Tryd.ntmps24
  go_upto_region 3 with (first | (go_at_call 65; (with_reducible refine (ABS.out _ ?_).mono ?_); exact (below3 w _ _ _).alloc (by simp; omega) _; rintro e w1 ⟨_, rfl, ⟨b1, A1, n1, c1, rfl, hv1⟩, hb1⟩ ; have M0 := Blk.after hb1 N0.out rfl (by simp <;> omega); have M1 := Blk.after hb1 N1.out rfl (by simp <;> omega); have M2 := Blk.after hb1 N2.out rfl (by simp <;> omega); have M3 := Blk.after hb1 N5.out rfl (by simp); have q01 := M0.at_ 1 rfl; have lq := M0.lt))
  have ln1 : n1 ≤ 900000 := hv1.len (by simpa using BBB.out)
  obtain ⟨hbn, Y, hn1, hsl, dY, zY, vY⟩ := hv1
  obtain rfl : b1 = false := by rw [hbn, decide_eq_false_iff_not]; omega
  have hY : Y ≠ [] := by rintro rfl; simp [val] at vY; omega
  have h1 : 1 ≤ n1 := by rw [hn1]; exact List.length_pos_iff.2 hY
  have HY := Lib.hid hn1
  have DY := Lib.hid dY
  have HV := Lib.hid vY
  obtain ⟨adb, cb, e, _, _, _⟩ := hsl.at_ (n1 - 1) (by omega)
  injection e with e1 e2 e3
  subst e1
  clear e2 e3
  have HSL := Lib.hid hsl
  have HYY := Lib.hid (And.intro hY zY)
  have D0 : DM w w1 ((((w1.alloc (.cells #[.bool false, .slice (some adb) n1 c1] 34)).alloc (.cells (madeCells #[.int .i64 0] n) 3)).alloc (.cells #[.bool false, .slice (some ⟨w1.heap.size + 1, 0, none⟩) n n] 34)).alloc (.cells #[.bool false, .slice none 0 0] 34)) w1.heap.size n #[.bool x, .slice A n c] #[.bool y, .slice B m d] #[.bool false, .slice (some adb) n1 c1] #[.bool false, .slice none 0 0] (List.replicate n 0) :=
    ⟨(((M0.alloc _).alloc _).alloc _).alloc _, (((M1.alloc _).alloc _).alloc _).alloc _, (((M2.alloc _).alloc _).alloc _).alloc _, (((M3.alloc _).alloc _).alloc _).alloc _, (((Blk.new _ _ _).alloc _).alloc _).alloc _,
      Row.alloc (Row.alloc (Row.new' _ _ _ _ (by simp)) _) _, Blk.alloc (Blk.new' _ _ _ (by simp)) _, Blk.new' _ _ _ (by simp), by have := M3.lt; omega,
      ((N4.out.trans (hb1.mono N4.out.size)).trans (((below3 w1 _ _ _).alloc (by simp; omega) _).mono (N4.out.trans (hb1.mono N4.out.size)).size)), (below3 w1 _ _ _).alloc (by simp; omega) _⟩
  have G3 : ∃ g, g = w1.heap.size := ⟨_, rfl⟩
  obtain ⟨g, hg⟩ := G3
  have hgg : w.heap.size + 4 ≤ g := by rw [hg]; exact D0.hg
  have ABX : ∀ wr, Below g w1 wr → ∀ j, j < n1 → wr.cell? (adb.add j) = some (.int .i64 (Y.getD j 0)) := by
    intro wr hb j hj
    obtain ⟨ad', c', e', _, hbl, hc'⟩ := HSL.out.at_ j (by rw [← HY.out]; exact hj)
    injection e' with e1'
    injection e1' with e1'
    subst e1'
    rw [hb.cell (by rw [block_of_add, hg]; exact hbl)]
    exact hc'
  have ABX := Lib.hid ABX
  have HG := Lib.hid hg
  have D0' := Lib.hid D0
  have HA := Lib.hid ha
  clear D0 hg hbn hn1 dY zY vY hsl hY M0 M1 M2 M3 N0 N1 N2 N4 N5 hmk hb ha q01 lq hb1 ABS
  go_cut [6, 7, 8, 9] (fun s6 s7 s8 s9 wx => s6 = .pointer (some ⟨g, 0, none⟩) ∧ s7 = .pointer (some ⟨g + 2, 0, none⟩) ∧ s8 = .pointer (some ⟨g + 3, 0, none⟩) ∧ s9 = .int .i64 n1 ∧ DM w w1 wx g n #[.bool x, .slice A n c] #[.bool y, .slice B m d] #[.bool false, .slice (some adb) n1 c1] #[.bool false, .slice none 0 0] (List.replicate n 0))
  case first =>
    go_wp2
    go_meet
    obtain rfl := HG.out
    exact ⟨rfl, rfl, rfl, rfl, D0'.out⟩
  case rest =>
    obtain ⟨rfl, rfl, rfl, rfl, hD⟩ := hcut
    have pb1 := hD.bb.at_ 1 rfl
    have ct := ABX.out wc hD.bw (n1 - 1) (by omega)
    have htop := getD_dig DY.out (n1 - 1)
    have htop1 : Y.getD (n1 - 1) 0 ≠ 0 := by
      have := HYY.out.2 HYY.out.1
      rw [List.getLast_eq_getElem] at this
      have e := HY.out
      rw [List.getD_eq_getElem?_getD, List.getElem?_eq_getElem (by omega)]
      simpa [e] using this
    obtain ⟨t1, ht1⟩ : ∃ t, t = Y.getD (n1 - 1) 0 := ⟨_, rfl⟩
    rw [← ht1] at ct htop htop1
    clear ht1
    have h2 : 0 < t1 := by omega
    go_upto_if 35 with fail
    go_cut [10] (fun s10 wx => ∃ hv : Int, s10 = .int .i64 hv ∧ 10000 ≤ hv ∧ hv ≤ 100000000 ∧ DM w w1 wx g n #[.bool x, .slice A n c] #[.bool y, .slice B m d] #[.bool false, .slice (some adb) n1 c1] #[.bool false, .slice none 0 0] (List.replicate n 0))
    case first =>
      have HD := Lib.hid hD
      clear hD
      by_cases hn2 : 1 < n1
      · have ct2 := ABX.out wc HD.out.bw (n1 - 2) (by omega)
        have ht2 := getD_dig DY.out (n1 - 2)
        obtain ⟨t2, e2⟩ : ∃ t, t = Y.getD (n1 - 2) 0 := ⟨_, rfl⟩
        rw [← e2] at ct2 ht2
        clear e2
        go_wp2
        go_meet
        exact ⟨_, rfl, by omega, by omega, HD.out⟩
      · go_wp2
        go_meet
        exact ⟨_, rfl, by omega, by omega, HD.out⟩
    case rest =>
      obtain ⟨hv, rfl, hv1, hv2, hD⟩ := hcut
      have HBND := Lib.hid (fun t (h0 : 0 ≤ t) (h1 : t ≤ 100000001) => mul_bnd (t := t) BBB.out h0 h1)
      obtain ⟨hx, X, hn, hs, dX, zX, vX⟩ := HA.out
      have HN := Lib.hid hn
      have HS := Lib.hid hs
      have DX := Lib.hid dX
      have HX := Lib.hid (And.intro hx vX)
      have ABZ : ∀ wr, Below g w1 wr → ZL wr false (some adb) n1 c1 ((b.natAbs : Int)) := fun wr hb => ZL.of (by simp) HY.out (HSL.out.below (by rw [← HG.out]; exact hb)) DY.out HYY.out.2 HV.out
      have ABZ := Lib.hid ABZ
      obtain ⟨Bv, eBv⟩ : ∃ Bv : Int, Bv = (b.natAbs : Int) := ⟨_, rfl⟩
      have hBv : 0 < Bv := by omega
      rw [← eBv] at ABZ HBND
      have EBV := Lib.hid eBv
      have HI0 := Lib.hid (show DivI X Bv n n (List.replicate n 0) 0 by rw [hn]; exact DivI.start X Bv hBv)
      clear eBv hx hn hs dX zX vX
      have p01 := hD.b0.at_ 1 rfl
      go_wp2
      clear p01
      go_loopw [11] (fun s11 wr => ∃ (k : Nat) (QL : List Int) (R : Int) (br : Bool) (Ar : Option Addr) (nr cr : Nat), s11 = .int .i64 ((k : Int) - 1) ∧ k ≤ n ∧ Hid (DivI X Bv n k QL R) ∧ DM w w1 wr g n #[.bool x, .slice A n c] #[.bool y, .slice B m d] #[.bool false, .slice (some adb) n1 c1] #[.bool br, .slice Ar nr cr] QL ∧ ZLF wr (g + 4) br Ar nr cr R) (fun s11 _ => (intOf s11 + 1).toNat)
      case atStart => exact ⟨n, _, _, _, _, _, _, rfl, Nat.le_refl _, HI0, hD, ZL.nil _ _ _, .inl rfl⟩
      case round =>
        obtain ⟨k1, QL, R, br, Ar, nr, cr, rfl, hk, hI, hD, hR⟩ := hrel
        by_cases hk0 : 0 < k1
        · obtain ⟨k, rfl⟩ : ∃ k, k1 = k + 1 := ⟨k1 - 1, by omega⟩
          clear hk0
          have hkn : k < n := by omega
          rw [show (((k + 1 : Nat) : Int) - 1) = (k : Int) by omega]
          go_upto_region 10 with fail
          go_cut [11] (fun s11 wx => s11 = .int .i64 k ∧ ∃ (br : Bool) (Ar : Option Addr) (nr cr : Nat), DM w w1 wx g n #[.bool x, .slice A n c] #[.bool y, .slice B m d] #[.bool false, .slice (some adb) n1 c1] #[.bool br, .slice Ar nr cr] QL ∧ ZLF wx (g + 4) br Ar nr cr (X.getD k 0 + 10000 * R))
          case first =>
            obtain ⟨adx, cx, ex, _, hbx, _⟩ := HS.out.at_ k (by rw [← HN.out]; omega)
            injection ex with ex1 ex2 ex3
            subst ex1
            clear ex2 ex3
            obtain ⟨xk, hxk⟩ : ∃ xk, X.getD k 0 = xk := ⟨_, rfl⟩
            have bxk := getD_dig DX.out k
            rw [hxk] at bxk
            have HXC : ∀ wr, Below w.heap.size w wr → wr.cell? (adx.add k) = some (.int .i64 xk) := by
              intro wr hb
              obtain ⟨ad', c', e', _, hbl, hc'⟩ := HS.out.at_ k (by rw [← HN.out]; omega)
              injection e' with e1'
              injection e1' with e1'
              subst e1'
              rw [hb.cell (by rw [block_of_add]; exact hbl), ← hxk]
              exact hc'
            have HXC := Lib.hid HXC
            have EXK := Lib.hid hxk
            have hR0 := hI.out.r0
            have hR1 := hI.out.r1
            obtain ⟨_, Rl, hnr, hsr, dR, zR, vR⟩ := hR.1
            have hlr : nr ≤ 1000000 := hR.1.len (by have := HBND.out 1 (by omega) (by omega); rw [Int.one_mul] at this; omega)
            have HSR := Lib.hid hsr
            have HNR := Lib.hid hnr
            have TRIM := Lib.hid (fun A' n' c' W (h : Sl .i64 W (.slice A' n' c') ([xk] ++ Rl)) => trim_c false A' n' c' ([xk] ++ Rl) W h (by intro d hd; rcases List.mem_cons.1 hd with rfl | hd; exact bxk; exact dR d hd) (by simp; omega))
            have hvr : sg false (val ([xk] ++ Rl)) = xk + 10000 * R := by simp only [List.singleton_append, val, sg]; rw [vR, show ((R.natAbs : Nat) : Int) = R by omega]; simp
            rw [hvr] at TRIM
            have FR := Lib.hid hR.2
            clear hR dR zR vR hvr hsr hnr hxk
            have k2 : (0 : Int) ≤ (k : Int) := by omega
            have k3 : (k : Int) < (n : Int) := by omega
            have hD0 := Lib.hid hD
            clear hD
            have hsz := hD0.out.sz
            (refine wp_region_L (S := fun w' => w'.cell? ⟨w.heap.size, 1, none⟩ = some (.slice (some adx) n c) ∧ w'.cell? (adx.add k) = some (.int .i64 xk) ∧ w'.cell? ⟨g + 3, 1, none⟩ = some (.slice Ar nr cr)) (nl := 11) (by kernel_rfl) ?_ (fun hHeld => ?_); focus (exact ⟨hD0.out.drew.b0.at_ 1 rfl, HXC.out _ hD0.out.drew.lo, hD0.out.drew.br.at_ 1 rfl⟩))
            (refine wpAnyL_take (i := 0) (oi := _) (v := ?_) rfl (by kernel_rfl) (by kernel_rfl) (by kernel_rfl) (fun _ _ _ h => h) (Or.inl ⟨by first | rfl | kernel_rfl, ?hy1⟩) (by assumption) ?rs1; (case hy1 => (intro w hSw; (try dsimp only at hSw); go_simp; first | done | with_reducible rfl)); case' rs1 => (simp only [List.getElem_toArray, List.getElem_cons_zero, List.getElem_cons_succ, Act.put, List.setIfInBounds_toArray, List.set_cons_zero, List.set_cons_succ])); (refine wpAnyL_take (i := 1) (oi := _) (v := ?_) rfl (by kernel_rfl) (by kernel_rfl) (by kernel_rfl) (fun _ _ _ h => h) (Or.inl ⟨by first | rfl | kernel_rfl, ?hy2⟩) (by assumption) ?rs2; (case hy2 => (intro w hSw; (try dsimp only at hSw); go_simp; first | done | with_reducible rfl)); case' rs2 => (simp only [List.getElem_toArray, List.getElem_cons_zero, List.getElem_cons_succ, Act.put, List.setIfInBounds_toArray, List.set_cons_zero, List.set_cons_succ])); (refine wpAnyL_take (i := 2) (oi := _) (v := ?_) rfl (by kernel_rfl) (by kernel_rfl) (by kernel_rfl) (fun _ _ _ h => h) (Or.inl ⟨by first | rfl | kernel_rfl, ?hy3⟩) (by assumption) ?rs3; (case hy3 => (intro w hSw; (try dsimp only at hSw); go_simp; first | done | with_reducible rfl)); case' rs3 => (simp only [List.getElem_toArray, List.getElem_cons_zero, List.getElem_cons_succ, Act.put, List.setIfInBounds_toArray, List.set_cons_zero, List.set_cons_succ])); (refine wpAnyL_take (i := 3) (oi := _) (v := ?_) rfl (by kernel_rfl) (by kernel_rfl) (by kernel_rfl) (fun _ _ _ h => h) (Or.inl ⟨by first | rfl | kernel_rfl, ?hy4⟩) (by assumption) ?rs4; (case hy4 => (intro w hSw; (try dsimp only at hSw); go_simp; first | done | with_reducible rfl)); case' rs4 => (simp only [List.getElem_toArray, List.getElem_cons_zero, List.getElem_cons_succ, Act.put, List.setIfInBounds_toArray, List.set_cons_zero, List.set_cons_succ])); (refine wpAnyL_take (i := 4) (oi := _) (v := ?_) rfl (by kernel_rfl) (by kernel_rfl) (by kernel_rfl) (fun _ _ _ h => h) (Or.inl ⟨by first | rfl | kernel_rfl, ?hy5⟩) (by assumption) ?rs5; (case hy5 => (intro w hSw; (try dsimp only at hSw); go_simp; first | done | with_reducible rfl)); case' rs5 => (simp only [List.getElem_toArray, List.getElem_cons_zero, List.getElem_cons_succ, Act.put, List.setIfInBounds_toArray, List.set_cons_zero, List.set_cons_succ])); (refine wpAnyL_take (i := 6) (oi := _) (v := ?_) rfl (by kernel_rfl) (by kernel_rfl) (by kernel_rfl) (fun _ _ _ h => h) (Or.inl ⟨by first | rfl | kernel_rfl, ?hy6⟩) (by assumption) ?rs6; (case hy6 => (intro w hSw; (try dsimp only at hSw); go_simp; first | done | with_reducible rfl)); case' rs6 => (simp only [List.getElem_toArray, List.getElem_cons_zero, List.getElem_cons_succ, Act.put, List.setIfInBounds_toArray, List.set_cons_zero, List.set_cons_succ])); (refine wpAnyL_take (i := 7) (oi := _) (v := ?_) rfl (by kernel_rfl) (by kernel_rfl) (by kernel_rfl) (fun _ _ _ h => h) (Or.inl ⟨by first | rfl | kernel_rfl, ?hy7⟩) (by assumption) ?rs7; (case hy7 => (intro w hSw; (try dsimp only at hSw); go_simp; first | done | with_reducible rfl)); case' rs7 => (simp only [List.getElem_toArray, List.getElem_cons_zero, List.getElem_cons_succ, Act.put, List.setIfInBounds_toArray, List.set_cons_zero, List.set_cons_succ])); skip
            (refine wpAnyL_one (i := 5) (o := _) (by kernel_rfl) rfl (fun K hK => ?_); clear hHeld; simp only [List.getElem_toArray, List.getElem_cons_zero, List.getElem_cons_succ]; go_simp; refine hK.out _ _ ?_ (fun hHeld => ?_); focus (intro _; exact ⟨(hD0.out.alloc _).drew.b0.at_ 1 rfl, HXC.out _ (hD0.out.alloc _).drew.lo, (hD0.out.alloc _).drew.br.at_ 1 rfl⟩)); have hHeld := hHeld (by decide); clear hK K; (try simp only [Act.put, List.setIfInBounds_toArray, List.set_cons_zero, List.set_cons_succ])
            have hD1 := Lib.hid (hD0.out.alloc (.cells #[.int .i64 xk] 3)).drew
            have hs1 := Lib.hid (HSR.out.alloc (.cells #[.int .i64 xk] 3)).drew
            (refine wpAnyL_one (i := 8) (o := _) (by kernel_rfl) rfl (fun K hK => ?_); clear hHeld; simp only [List.getElem_toArray, List.getElem_cons_zero, List.getElem_cons_succ]; rw [if_pos (by rfl)]; refine wp_app_list el_int (by rfl) _ _ (by rfl) _ 1 1 [xk] (by rfl) (Sl.one _ _ _ _).drew Ar nr cr Rl (by rfl) hs1.out (by intro h; have := List.length_pos_iff.2 h; have := HNR.out; omega) (by have := HNR.out; (try simp); omega) ?_; intro A2 n2 c2 w2 hn2 hS2 hb2 hA2; have hD2 := hD1.out.below hb2; refine hK.out _ _ ?_ (fun hHeld => ?_); focus (intro _; exact ⟨hD2.b0.at_ 1 rfl, HXC.out _ hD2.lo, hD2.br.at_ 1 rfl⟩)); have hHeld := hHeld (by decide); clear hK K; (try simp only [Act.put, List.setIfInBounds_toArray, List.set_cons_zero, List.set_cons_succ])
            have hD2' := Lib.hid hD2
            have hA2' := Lib.hid hA2
            have hS2' := Lib.hid hS2
            have hn2' := Lib.hid hn2
            clear hD2 hA2 hS2 hn2 hb2
            (refine wpAnyL_take (i := 9) (oi := _) (v := ?_) rfl (by kernel_rfl) (by kernel_rfl) (by kernel_rfl) (fun _ _ _ h => h) (Or.inl ⟨by first | rfl | kernel_rfl, ?hy8⟩) (by assumption) ?rs8; (case hy8 => (intro w hSw; (try dsimp only at hSw); go_simp; first | done | with_reducible rfl)); case' rs8 => (simp only [List.getElem_toArray, List.getElem_cons_zero, List.getElem_cons_succ, Act.put, List.setIfInBounds_toArray, List.set_cons_zero, List.set_cons_succ])); skip
            (refine wpAnyL_one (i := 10) (o := _) (by kernel_rfl) rfl (fun K hK => ?_); clear hHeld; simp only [List.getElem_toArray, List.getElem_cons_zero, List.getElem_cons_succ]; go_simp; (go_at_call 64; (with_reducible refine (TRIM.out _ _ _ _ hS2'.out).mono ?_); rintro e w3 ⟨b3, m3, rfl, hm3, hv3, hb3⟩; have hD3 := hD2'.out.below hb3; clear hb3); refine hK.out _ _ ?_ (fun hHeld => ?_); focus (intro _; exact ⟨hD3.b0.at_ 1 rfl, HXC.out _ hD3.lo, hD3.br.at_ 1 rfl⟩)); have hHeld := hHeld (by decide); clear hK K; (try simp only [Act.put, List.setIfInBounds_toArray, List.set_cons_zero, List.set_cons_succ])
            have t0 := hD3.br.at_ 0 rfl
            have t1 := hD3.br.at_ 1 rfl
            have f0 := hD3.br.frozen 0
            have f1 := hD3.br.frozen 1
            have hD3' := Lib.hid hD3
            clear hD3
            (refine wpAnyL_one (i := 11) (o := _) (by kernel_rfl) rfl (fun K hK => ?_); clear hHeld; simp only [List.getElem_toArray, List.getElem_cons_zero, List.getElem_cons_succ]; go_simp; refine hK.out _ _ ?_ (fun hHeld => ?_); focus (intro h; exact absurd h (by decide))); clear hK K; (try simp only [Act.put, List.setIfInBounds_toArray, List.set_cons_zero, List.set_cons_succ])
            refine wpAnyL_done (by kernel_rfl) ?_ _
            go_wp2
            go_meet
            refine ⟨rfl, _, _, _, _, hD3'.out.setR _ _, ?_, ?_⟩
            · rw [EXK.out]; exact ZL.box hv3 t0 t1 _ _
            · rcases hA2'.out with rfl | ⟨g', rfl, hg'⟩
              · exact .inr ⟨_, rfl, hsz⟩
              · exact .inr ⟨_, rfl, by simp at hg'; show g + 4 ≤ g'; omega⟩
          case rest =>
            obtain ⟨rfl, br, Ar, nr, cr, hD, hR⟩ := hcut
            obtain ⟨R1, eR1⟩ : ∃ R1 : Int, R1 = X.getD k 0 + 10000 * R := ⟨_, rfl⟩
            rw [← eR1] at hR
            have hR10 : 0 ≤ R1 := by have := getD_dig DX.out k; have := hI.out.r0; omega
            have hR11 : R1 < 10000 * Bv := by have := getD_dig DX.out k; have := hI.out.r1; omega
            have HR1 := Lib.hid eR1
            clear eR1
            have hlr : nr ≤ 1000000 := hR.1.len (by have := HBND.out 10000 (by omega) (by omega); omega)
            --L2
            go_wp2
            obtain ⟨hbr0, Rl, hnr, hsr, dR, zR, vR⟩ := hR.1
            clear hbr0
            have HSR := Lib.hid hsr
            have HNR := Lib.hid hnr
            have DR := Lib.hid dR
            have hD' := Lib.hid hD
            have hR' := Lib.hid hR
            have hI' := Lib.hid hI
            have p31 := hD.br.at_ 1 rfl
            clear hsr hnr dR zR vR hD hR
            go_loop [12, 13] (fun s12 s13 => ∃ (j : Nat) (tp : Int), s13 = .int .i64 ((n1 : Int) - j) ∧ s12 = .int .i64 tp ∧ j ≤ 3 ∧ 0 ≤ tp ∧ Hid (tp < 10000 ^ j)) (fun s12 s13 => (intOf s13 - n1 + 3).toNat)
            case atStart => exact ⟨0, 0, by simp, rfl, by omega, by omega, by show (0 : Int) < 10000 ^ 0; decide⟩
            case round =>
              obtain ⟨j, tp, rfl, rfl, hj, htp0, htp1⟩ := hrel
              by_cases hj3 : j < 3
              · obtain ⟨PW, ePW⟩ : ∃ PW : Int, PW = 10000 ^ j := ⟨_, rfl⟩
                have hP : PW ≤ 100000000 := by rw [ePW]; exact pow_mono (show j ≤ 2 by omega)
                have htp2 : tp < PW := by rw [ePW]; exact htp1.out
                have EP := Lib.hid (show (10000 : Int) ^ (j + 1) = PW * 10000 by rw [Int.pow_succ, ← ePW])
                clear ePW htp1
                by_cases hi : (j : Int) ≤ n1
                · by_cases hl : (n1 : Int) - j < nr
                  · obtain ⟨adr, cr', er, _, _, hcr⟩ := HSR.out.at_ (n1 - j) (by rw [← HNR.out]; omega)
                    injection er with er1 er2 er3
                    subst er1
                    have bdr := getD_dig DR.out (n1 - j)
                    obtain ⟨dr, edr⟩ : ∃ z, Rl.getD (n1 - j) 0 = z := ⟨_, rfl⟩
                    rw [edr] at hcr bdr
                    have i1 : ((n1 : Int) - (j : Int)).toNat = n1 - j := by omega
                    have i2 : (0 : Int) ≤ (n1 : Int) - (j : Int) := by omega
                    clear er2 er3 edr
                    go_wp2
                    exact ⟨⟨j + 1, _, by congr 1; omega, rfl, by omega, by omega, by show _ < (10000 : Int) ^ (j + 1); rw [EP.out]; omega⟩, by simp only [intOf]; omega⟩
                  · go_wp2
                    exact ⟨⟨j + 1, _, by congr 1; omega, rfl, by omega, by omega, by show _ < (10000 : Int) ^ (j + 1); rw [EP.out]; omega⟩, by simp only [intOf]; omega⟩
                · go_wp2
                  exact ⟨⟨j + 1, _, by congr 1; omega, rfl, by omega, by omega, by show _ < (10000 : Int) ^ (j + 1); rw [EP.out]; omega⟩, by simp only [intOf]; omega⟩
              · obtain rfl : j = 3 := by omega
                have htp2 : tp < 1000000000000 := htp1.out
                clear htp1 p31
                have q0 : 0 ≤ tp / hv := Int.ediv_nonneg htp0 (by omega)
                have q1 : tp / hv ≤ 100000000 := by
                  have a := Int.ediv_mul_le tp (show hv ≠ 0 by omega)
                  rcases Int.lt_or_le 100000000 (tp / hv) with h | h
                  · exfalso
                    have := Int.mul_le_mul (show (100000001 : Int) ≤ tp / hv by omega) (show (10000 : Int) ≤ hv by omega) (by omega) (by omega)
                    omega
                  · exact h
                --L3
                go_upto_region 19 with fail
                generalize tp / hv = mv at q0 q1 ⊢
                clear htp0 htp2 hj hj3
                go_cut [14, 15] (fun s14 s15 wx => ∃ (mv : Int) (gp : Nat) (bp : Bool) (Ap : Option Addr) (np cp : Nat), s14 = .int .i64 mv ∧ s15 = .pointer (some ⟨gp, 0, none⟩) ∧ g + 4 ≤ gp ∧ 0 ≤ mv ∧ mv ≤ 100000000 ∧
                  DM w w1 wx g n #[.bool x, .slice A n c] #[.bool y, .slice B m d] #[.bool false, .slice (some adb) n1 c1] #[.bool br, .slice Ar nr cr] QL ∧ ZLF wx (g + 4) br Ar nr cr R1 ∧
                  Blk wx gp 34 #[.bool bp, .slice Ap np cp] ∧ ZLF wx (g + 4) bp Ap np cp (mv * Bv))
                case first =>
                  have NC := Lib.hid (fun W => N_c mv (by omega) (by omega) W)
                  have MC : ∀ W vb, Below g w1 W → ZV W vb mv → Calls Tryd.prog 20 #[.agg #[.bool false, .slice (some adb) n1 c1], vb] W (RetZ W (mv * Bv)) := by
                    intro W vb h1 h2
                    rw [Int.mul_comm]
                    exact ZMul_c _ vb Bv mv W (ABZ.out W h1).v h2 (by have := HBND.out 1 (by omega) (by omega); rwa [Int.one_mul] at this) (by have a := big_mono (show 3 ≤ 1000000 by decide); rw [big3] at a; omega)
                  have MC := Lib.hid MC
                  have hsz := hD'.out.sz
                  (refine wp_region_L (S := fun w' => w'.cell? ⟨g, 0, none⟩ = some (.bool false) ∧ w'.cell? ⟨g, 1, none⟩ = some (.slice (some adb) n1 c1)) (nl := 5) (by kernel_rfl) ?_ (fun hHeld => ?_); focus (exact ⟨hD'.out.drew.bb.at_ 0 rfl, hD'.out.drew.bb.at_ 1 rfl⟩))
                  (refine wpAnyL_take (i := 0) (oi := _) (v := ?_) rfl (by kernel_rfl) (by kernel_rfl) (by kernel_rfl) (fun _ _ _ h => h) (Or.inl ⟨by first | rfl | kernel_rfl, ?hy9⟩) (by assumption) ?rs9; (case hy9 => (intro w hSw; (try dsimp only at hSw); go_simp; first | done | with_reducible rfl)); case' rs9 => (simp only [List.getElem_toArray, List.getElem_cons_zero, List.getElem_cons_succ, Act.put, List.setIfInBounds_toArray, List.set_cons_zero, List.set_cons_succ])); (refine wpAnyL_take (i := 1) (oi := _) (v := ?_) rfl (by kernel_rfl) (by kernel_rfl) (by kernel_rfl) (fun _ _ _ h => h) (Or.inl ⟨by first | rfl | kernel_rfl, ?hy10⟩) (by assumption) ?rs10; (case hy10 => (intro w hSw; (try dsimp only at hSw); go_simp; first | done | with_reducible rfl)); case' rs10 => (simp only [List.getElem_toArray, List.getElem_cons_zero, List.getElem_cons_succ, Act.put, List.setIfInBounds_toArray, List.set_cons_zero, List.set_cons_succ])); skip
                  refine wpAnyL_two (i := 2) (j := 4) (oi := _) (oj := _) (by kernel_rfl) rfl rfl (fun K hK => ?_) (fun K hK => ?_)
                  · (clear hHeld; simp only [List.getElem_toArray, List.getElem_cons_zero, List.getElem_cons_succ]; go_simp; (go_at_call 22; (with_reducible refine (NC.out _).mono ?_); rintro e w2 ⟨_, rfl, ⟨b2, A2, n2, c2, rfl, hv2⟩, hb2⟩; have D2 := hD'.out.drew.below hb2; have R2 := hR'.out.zl.drew.below hb2; have z2 := hb2.size); refine hK.out _ _ ?_ (fun hHeld => ?_); focus (intro _; exact ⟨D2.bb.at_ 0 rfl, D2.bb.at_ 1 rfl⟩)); have hHeld := hHeld (by decide); clear hK K; (try simp only [Act.put, List.setIfInBounds_toArray, List.set_cons_zero, List.set_cons_succ])
                    have s2 := D2.sz
                    refine wpAnyL_two (i := 3) (j := 4) (oi := _) (oj := _) (by kernel_rfl) rfl rfl (fun K hK => ?_) (fun K hK => ?_)
                    · (clear hHeld; simp only [List.getElem_toArray, List.getElem_cons_zero, List.getElem_cons_succ]; go_simp; (go_at_call 20; (with_reducible refine (MC.out _ _ D2.bw hv2.v).mono ?_); rintro e w3 ⟨_, rfl, ⟨b3, A3, n3, c3, rfl, hv3⟩, hb3⟩; have D3 := D2.below hb3; have R3 := R2.below hb3; have z3 := hb3.size); refine hK.out _ _ ?_ (fun hHeld => ?_); focus (intro _; exact ⟨D3.bb.at_ 0 rfl, D3.bb.at_ 1 rfl⟩)); have hHeld := hHeld (by decide); clear hK K; (try simp only [Act.put, List.setIfInBounds_toArray, List.set_cons_zero, List.set_cons_succ])
                      have s3 := D3.sz
                      (refine wpAnyL_one (i := 4) (o := _) (by kernel_rfl) rfl (fun K hK => ?_); clear hHeld; simp only [List.getElem_toArray, List.getElem_cons_zero, List.getElem_cons_succ]; go_simp; refine hK.out _ _ ?_ (fun hHeld => ?_); focus (intro _; exact ⟨(D3.alloc _).bb.at_ 0 rfl, (D3.alloc _).bb.at_ 1 rfl⟩)); have hHeld := hHeld (by decide); clear hK K; (try simp only [Act.put, List.setIfInBounds_toArray, List.set_cons_zero, List.set_cons_succ])
                      clear hHeld
                      have D3' := Lib.hid D3
                      clear D3 D2
                      (refine wpAnyL_one (i := 5) (o := _) (by kernel_rfl) rfl (fun K hK => ?_); clear hHeld; simp only [List.getElem_toArray, List.getElem_cons_zero, List.getElem_cons_succ]; go_simp; refine hK.out _ _ ?_ (fun hHeld => ?_); focus (intro h; exact absurd h (by decide))); clear hK K; (try simp only [Act.put, List.setIfInBounds_toArray, List.set_cons_zero, List.set_cons_succ])
                      refine wpAnyL_done (by kernel_rfl) ?_ _
                      go_wp2
                      go_meet
                      exact ⟨mv, _, b3, A3, n3, c3, rfl, rfl, s3, q0, q1, D3'.out.alloc _, ⟨R3.alloc _, hR'.out.fr⟩, Blk.new _ _ _, ⟨hv3.zl.alloc _, hv3.fr.mono (by omega)⟩⟩
                    · (clear hHeld; simp only [List.getElem_toArray, List.getElem_cons_zero, List.getElem_cons_succ]; go_simp; refine hK.out _ _ ?_ (fun hHeld => ?_); focus (intro _; exact ⟨(D2.alloc _).bb.at_ 0 rfl, (D2.alloc _).bb.at_ 1 rfl⟩)); have hHeld := hHeld (by decide); clear hK K; (try simp only [Act.put, List.setIfInBounds_toArray, List.set_cons_zero, List.set_cons_succ])
                      (refine wpAnyL_one (i := 3) (o := _) (by kernel_rfl) rfl (fun K hK => ?_); clear hHeld; simp only [List.getElem_toArray, List.getElem_cons_zero, List.getElem_cons_succ]; go_simp; (go_at_call 20; (with_reducible refine (MC.out _ _ (D2.alloc _).bw (hv2.zl.alloc _).v).mono ?_); rintro e w3 ⟨_, rfl, ⟨b3, A3, n3, c3, rfl, hv3⟩, hb3⟩; have D3 := (D2.alloc _).below hb3; have R3 := (R2.alloc _).below hb3; have z3 := hb3.size; have B3 := Blk.after hb3 (Blk.new w2 34 #[.bool false, .slice none 0 0]) rfl (by simp)); refine hK.out _ _ ?_ (fun hHeld => ?_); focus (intro _; exact ⟨D3.bb.at_ 0 rfl, D3.bb.at_ 1 rfl⟩)); have hHeld := hHeld (by decide); clear hK K; (try simp only [Act.put, List.setIfInBounds_toArray, List.set_cons_zero, List.set_cons_succ])
                      have t0 := B3.at_ 0 rfl
                      have t1 := B3.at_ 1 rfl
                      have f0 := B3.frozen 0
                      have f1 := B3.frozen 1
                      have B3' := Lib.hid B3
                      have D3' := Lib.hid D3
                      clear D3 D2 B3 hb3
                      clear hHeld
                      (refine wpAnyL_one (i := 5) (o := _) (by kernel_rfl) rfl (fun K hK => ?_); clear hHeld; simp only [List.getElem_toArray, List.getElem_cons_zero, List.getElem_cons_succ]; go_simp; refine hK.out _ _ ?_ (fun hHeld => ?_); focus (intro h; exact absurd h (by decide))); clear hK K; (try simp only [Act.put, List.setIfInBounds_toArray, List.set_cons_zero, List.set_cons_succ])
                      refine wpAnyL_done (by kernel_rfl) ?_ _
                      go_wp2
                      go_meet
                      exact ⟨mv, _, b3, A3, n3, c3, rfl, rfl, s2, q0, q1, (D3'.out.high s2 _).high s2 _, ⟨ZL.box R3 t0 t1 _ _, hR'.out.fr⟩, B3'.out.set2 _ _, ⟨ZL.box hv3.zl t0 t1 _ _, hv3.fr.mono (by simp; omega)⟩⟩
                  · (clear hHeld; simp only [List.getElem_toArray, List.getElem_cons_zero, List.getElem_cons_succ]; go_simp; refine hK.out _ _ ?_ (fun hHeld => ?_); focus (intro _; exact ⟨(hD'.out.alloc _).drew.bb.at_ 0 rfl, (hD'.out.alloc _).drew.bb.at_ 1 rfl⟩)); have hHeld := hHeld (by decide); clear hK K; (try simp only [Act.put, List.setIfInBounds_toArray, List.set_cons_zero, List.set_cons_succ])
                    (refine wpAnyL_one (i := 2) (o := _) (by kernel_rfl) rfl (fun K hK => ?_); clear hHeld; simp only [List.getElem_toArray, List.getElem_cons_zero, List.getElem_cons_succ]; go_simp; (go_at_call 22; (with_reducible refine (NC.out _).mono ?_); rintro e w2 ⟨_, rfl, ⟨b2, A2, n2, c2, rfl, hv2⟩, hb2⟩; have D2 := (hD'.out.alloc (.cells #[.bool false, .slice none 0 0] 34)).drew.below hb2; have B2 := Blk.after hb2 (Blk.new wc 34 #[.bool false, .slice none 0 0]) rfl (by simp); have R2 := (hR'.out.zl.alloc _).drew.below hb2; have z2 := hb2.size); refine hK.out _ _ ?_ (fun hHeld => ?_); focus (intro _; exact ⟨D2.bb.at_ 0 rfl, D2.bb.at_ 1 rfl⟩)); have hHeld := hHeld (by decide); clear hK K; (try simp only [Act.put, List.setIfInBounds_toArray, List.set_cons_zero, List.set_cons_succ])
                    (refine wpAnyL_one (i := 3) (o := _) (by kernel_rfl) rfl (fun K hK => ?_); clear hHeld; simp only [List.getElem_toArray, List.getElem_cons_zero, List.getElem_cons_succ]; go_simp; (go_at_call 20; (with_reducible refine (MC.out _ _ D2.bw hv2.v).mono ?_); rintro e w3 ⟨_, rfl, ⟨b3, A3, n3, c3, rfl, hv3⟩, hb3⟩; have D3 := D2.below hb3; have R3 := R2.below hb3; have z3 := hb3.size; have B3 := B2.below hb3 B2.lt); refine hK.out _ _ ?_ (fun hHeld => ?_); focus (intro _; exact ⟨D3.bb.at_ 0 rfl, D3.bb.at_ 1 rfl⟩)); have hHeld := hHeld (by decide); clear hK K; (try simp only [Act.put, List.setIfInBounds_toArray, List.set_cons_zero, List.set_cons_succ])
                    have t0 := B3.at_ 0 rfl
                    have t1 := B3.at_ 1 rfl
                    have f0 := B3.frozen 0
                    have f1 := B3.frozen 1
                    have B3' := Lib.hid B3
                    have D3' := Lib.hid D3
                    have s2 := D2.sz
                    clear D3 D2 B3 B2 hb3 hb2
                    clear hHeld
                    (refine wpAnyL_one (i := 5) (o := _) (by kernel_rfl) rfl (fun K hK => ?_); clear hHeld; simp only [List.getElem_toArray, List.getElem_cons_zero, List.getElem_cons_succ]; go_simp; refine hK.out _ _ ?_ (fun hHeld => ?_); focus (intro h; exact absurd h (by decide))); clear hK K; (try simp only [Act.put, List.setIfInBounds_toArray, List.set_cons_zero, List.set_cons_succ])
                    refine wpAnyL_done (by kernel_rfl) ?_ _
                    go_wp2
                    go_meet
                    exact ⟨mv, _, b3, A3, n3, c3, rfl, rfl, hsz, q0, q1, (D3'.out.high hsz _).high hsz _, ⟨ZL.box R3 t0 t1 _ _, hR'.out.fr⟩, B3'.out.set2 _ _, ⟨ZL.box hv3.zl t0 t1 _ _, hv3.fr.mono (by omega)⟩⟩
                case rest =>
                  obtain ⟨mv, gp, bp, Ap, np, cp, rfl, rfl, hgp, q0, q1, hD, hR, hBp, hP⟩ := hcut
                  --L4
                  have hRb : R1.natAbs < big 1000000 := by have := HBND.out 10000 (by omega) (by omega); omega
                  have HRB := Lib.hid hRb
                  clear hRb
                  go_wp2
                  go_loopw [14] (fun s14 wr => ∃ (mv : Int) (bp : Bool) (Ap : Option Addr) (np cp : Nat), s14 = .int .i64 mv ∧ 0 ≤ mv ∧ mv ≤ 100000000 ∧
                    DM w w1 wr g n #[.bool x, .slice A n c] #[.bool y, .slice B m d] #[.bool false, .slice (some adb) n1 c1] #[.bool br, .slice Ar nr cr] QL ∧ ZLF wr (g + 4) br Ar nr cr R1 ∧
                    Blk wr gp 34 #[.bool bp, .slice Ap np cp] ∧ ZLF wr (g + 4) bp Ap np cp (mv * Bv)) (fun s14 _ => (intOf s14).toNat)
                  case atStart => exact ⟨mv, bp, Ap, np, cp, rfl, q0, q1, hD, hR, hBp, hP⟩
                  case round =>
                    obtain ⟨mv, bp, Ap, np, cp, rfl, q0, q1, hD, hR, hBp, hP⟩ := hrel
                    have hmB : 0 ≤ mv * Bv := Int.mul_nonneg q0 (by omega)
                    have SZ := size_z hP.zl hR.zl hmB hR10 (HBND.out mv q0 (by omega)) HRB.out
                    have p15 := hBp.at_ 1 rfl
                    have p8 := hD.br.at_ 1 rfl
                    have hD' := Lib.hid hD
                    have hR' := Lib.hid hR
                    have hB' := Lib.hid hBp
                    have hP' := Lib.hid hP
                    clear hD hR hBp hP
                    by_cases hgt : R1 < mv * Bv
                    · rw [cmpv_gt hgt] at SZ
                      have SZ' := Lib.hid SZ
                      have hm1 : 1 ≤ mv := by
                        rcases Int.lt_or_le 0 mv with h | h
                        · omega
                        · obtain rfl : mv = 0 := by omega
                          omega
                      have SUBC : ∀ W, Below g w1 W → ZV W (.agg #[.bool bp, .slice Ap np cp]) (mv * Bv) → Calls Tryd.prog 66 #[.agg #[.bool bp, .slice Ap np cp], .agg #[.bool false, .slice (some adb) n1 c1]] W (RetZ W ((mv - 1) * Bv)) := by
                        intro W h1 h2
                        rw [show (mv - 1) * Bv = mv * Bv - Bv by rw [Int.sub_mul, Int.one_mul]]
                        exact ZSub_c _ _ _ Bv W h2 (ABZ.out W h1).v (HBND.out mv q0 (by omega)) (by have := HBND.out 1 (by omega) (by omega); rwa [Int.one_mul] at this)
                      have SUBC := Lib.hid SUBC
                      have p150 := hB'.out.at_ 0 rfl
                      have p60 := hD'.out.bb.at_ 0 rfl
                      have p61 := hD'.out.bb.at_ 1 rfl
                      clear SZ
                      go_wp2_with (first | (go_at_call 62; (with_reducible refine (SZ'.out).mono ?_); rintro e w' ⟨rfl, q, rfl⟩) | (go_at_call 66; (with_reducible refine (SUBC.out _ (hD'.out.drewN _).bw (hP'.out.zl.drewN _).v).mono ?_); rintro e w3 ⟨_, rfl, ⟨b3, A3, n3, c3, rfl, hv3⟩, hb3⟩; have B3 := (hB'.out.drewN _).below hb3 hB'.out.lt; have t0 := B3.at_ 0 rfl; have t1 := B3.at_ 1 rfl; have f0 := B3.frozen 0; have f1 := B3.frozen 1))
                      have D3 := (hD'.out.drewN q).below hb3
                      have R3 := (hR'.out.zl.drewN q).below hb3
                      have s3 := hD'.out.sz
                      exact ⟨⟨mv - 1, b3, A3, n3, c3, rfl, by omega, by omega, (D3.high hgp _).high hgp _, ⟨ZL.box R3 t0 t1 _ _, hR'.out.fr⟩, B3.set2 _ _, ⟨ZL.box hv3.zl t0 t1 _ _, hv3.fr.mono s3⟩⟩, by simp only [intOf]; omega⟩
                    · have cb := cmpv_bd (mv * Bv) R1
                      have hc : cmpv (mv * Bv) R1 ≤ 0 := by
                        by_cases h : mv * Bv < R1
                        · rw [cmpv_lt h]; omega
                        · rw [cmpv_eq (by omega)]; omega
                      generalize cmpv (mv * Bv) R1 = cv at SZ cb hc
                      have SZ' := Lib.hid SZ
                      clear SZ
                      go_wp2_with (first | (go_at_call 62; (with_reducible refine (SZ'.out).mono ?_); rintro e w' ⟨rfl, q, rfl⟩))
                      clear p15 p8 SZ' cb hc
                      --L5
                      have hle0 : mv * Bv ≤ R1 := by omega
                      have hMV : ∀ t : Int, t * Bv ≤ R1 → t < 10000 := by
                        intro t ht
                        rcases Int.lt_or_le t 10000 with h | h
                        · exact h
                        · have := Int.mul_le_mul_of_nonneg_right h (show 0 ≤ Bv by omega)
                          omega
                      have HMV := Lib.hid hMV
                      clear hMV hmB hgt q1
                      go_loopw [14] (fun s14 wr => ∃ (mv : Int) (bp : Bool) (Ap : Option Addr) (np cp : Nat), s14 = .int .i64 mv ∧ 0 ≤ mv ∧ mv * Bv ≤ R1 ∧
                        DM w w1 wr g n #[.bool x, .slice A n c] #[.bool y, .slice B m d] #[.bool false, .slice (some adb) n1 c1] #[.bool br, .slice Ar nr cr] QL ∧ ZLF wr (g + 4) br Ar nr cr R1 ∧
                        Blk wr gp 34 #[.bool bp, .slice Ap np cp] ∧ ZLF wr (g + 4) bp Ap np cp (mv * Bv)) (fun s14 _ => (20000 - intOf s14).toNat)
                      case atStart => exact ⟨mv, bp, Ap, np, cp, rfl, q0, hle0, hD'.out.drewN q, ⟨hR'.out.zl.drewN q, hR'.out.fr⟩, hB'.out.drewN q, ⟨hP'.out.zl.drewN q, hP'.out.fr⟩⟩
                      case round =>
                        clear hle0 q0 hD' hR' hB' hP' 
                        obtain ⟨mv, bp, Ap, np, cp, rfl, q0, hle0, hD, hR, hBp, hP⟩ := hrel
                        have q1 := HMV.out mv hle0
                        have hD' := Lib.hid hD
                        have hR' := Lib.hid hR
                        have hB' := Lib.hid hBp
                        have hP' := Lib.hid hP
                        have s1 := hD.sz
                        clear hD hR hBp hP
                        have hmB : 0 ≤ (mv + 1) * Bv := Int.mul_nonneg (by omega) (by omega)
                        have hmB2 := HBND.out (mv + 1) (by omega) (by omega)
                        have ADDC : ∀ W, Below g w1 W → ZV W (.agg #[.bool bp, .slice Ap np cp]) (mv * Bv) → Calls Tryd.prog 21 #[.agg #[.bool bp, .slice Ap np cp], .agg #[.bool false, .slice (some adb) n1 c1]] W (RetZ W ((mv + 1) * Bv)) := by
                          intro W h1 h2
                          rw [show (mv + 1) * Bv = mv * Bv + Bv by rw [Int.add_mul, Int.one_mul]]
                          exact ZAdd_c _ _ _ Bv W h2 (ABZ.out W h1).v (HBND.out mv q0 (by omega)) (by have := HBND.out 1 (by omega) (by omega); rwa [Int.one_mul] at this)
                        have ADDC := Lib.hid ADDC
                        have SZ2 := fun W b3 A3 n3 c3 (h1 : ZL W b3 A3 n3 c3 ((mv + 1) * Bv)) (h2 : ZL W br Ar nr cr R1) => size_z h1 h2 hmB hR10 hmB2 HRB.out
                        by_cases hle : (mv + 1) * Bv ≤ R1
                        · have cb := cmpv_bd ((mv + 1) * Bv) R1
                          have hc : cmpv ((mv + 1) * Bv) R1 ≤ 0 := by
                            by_cases h : (mv + 1) * Bv < R1
                            · rw [cmpv_lt h]; omega
                            · rw [cmpv_eq (by omega)]; omega
                          generalize cmpv ((mv + 1) * Bv) R1 = cv at SZ2 cb hc
                          have SZ2' := Lib.hid SZ2
                          have HLE := Lib.hid hle
                          clear SZ2 hle hle0 hmB hmB2
                          go_wp2
                          (refine wp_region_L (S := fun w' => w'.cell? ⟨gp, 0, none⟩ = some (.bool bp) ∧ w'.cell? ⟨gp, 1, none⟩ = some (.slice Ap np cp) ∧ w'.cell? ⟨g, 0, none⟩ = some (.bool false) ∧ w'.cell? ⟨g, 1, none⟩ = some (.slice (some adb) n1 c1) ∧ w'.cell? ⟨g + 3, 1, none⟩ = some (.slice Ar nr cr)) (nl := 1000000) (by kernel_rfl) ?_ (fun hHeld => ?_); focus (exact ⟨hB'.out.drew.at_ 0 rfl, hB'.out.drew.at_ 1 rfl, hD'.out.drew.bb.at_ 0 rfl, hD'.out.drew.bb.at_ 1 rfl, hD'.out.drew.br.at_ 1 rfl⟩))
                          (refine wpAnyL_take (i := 0) (oi := _) (v := ?_) rfl (by kernel_rfl) (by kernel_rfl) (by kernel_rfl) (fun _ _ _ h => h) (Or.inl ⟨by first | rfl | kernel_rfl, ?hy11⟩) (by assumption) ?rs11; (case hy11 => (intro w hSw; (try dsimp only at hSw); go_simp; first | done | with_reducible rfl)); case' rs11 => (simp only [List.getElem_toArray, List.getElem_cons_zero, List.getElem_cons_succ, Act.put, List.setIfInBounds_toArray, List.set_cons_zero, List.set_cons_succ])); (refine wpAnyL_take (i := 1) (oi := _) (v := ?_) rfl (by kernel_rfl) (by kernel_rfl) (by kernel_rfl) (fun _ _ _ h => h) (Or.inl ⟨by first | rfl | kernel_rfl, ?hy12⟩) (by assumption) ?rs12; (case hy12 => (intro w hSw; (try dsimp only at hSw); go_simp; first | done | with_reducible rfl)); case' rs12 => (simp only [List.getElem_toArray, List.getElem_cons_zero, List.getElem_cons_succ, Act.put, List.setIfInBounds_toArray, List.set_cons_zero, List.set_cons_succ])); (refine wpAnyL_take (i := 4) (oi := _) (v := ?_) rfl (by kernel_rfl) (by kernel_rfl) (by kernel_rfl) (fun _ _ _ h => h) (Or.inl ⟨by first | rfl | kernel_rfl, ?hy13⟩) (by assumption) ?rs13; (case hy13 => (intro w hSw; (try dsimp only at hSw); go_simp; first | done | with_reducible rfl)); case' rs13 => (simp only [List.getElem_toArray, List.getElem_cons_zero, List.getElem_cons_succ, Act.put, List.setIfInBounds_toArray, List.set_cons_zero, List.set_cons_succ])); (refine wpAnyL_take (i := 5) (oi := _) (v := ?_) rfl (by kernel_rfl) (by kernel_rfl) (by kernel_rfl) (fun _ _ _ h => h) (Or.inl ⟨by first | rfl | kernel_rfl, ?hy14⟩) (by assumption) ?rs14; (case hy14 => (intro w hSw; (try dsimp only at hSw); go_simp; first | done | with_reducible rfl)); case' rs14 => (simp only [List.getElem_toArray, List.getElem_cons_zero, List.getElem_cons_succ, Act.put, List.setIfInBounds_toArray, List.set_cons_zero, List.set_cons_succ])); skip
                          (refine wpAnyL_one (i := 2) (o := _) (by kernel_rfl) rfl (fun K hK => ?_); clear hHeld; simp only [List.getElem_toArray, List.getElem_cons_zero, List.getElem_cons_succ]; go_simp; (go_at_call 21; (with_reducible refine (ADDC.out _ hD'.out.drew.bw hP'.out.zl.drew.v).mono ?_); rintro e w3 ⟨_, rfl, ⟨b3, A3, n3, c3, rfl, hv3⟩, hb3⟩; have D3 := hD'.out.drew.below hb3; have R3 := hR'.out.zl.drew.below hb3; have P3 := hP'.out.zl.drew.below hb3; have B3 := Blk.after hb3 hB'.out rfl hB'.out.lt); refine hK.out _ _ ?_ (fun hHeld => ?_); focus (intro _; exact ⟨B3.at_ 0 rfl, B3.at_ 1 rfl, D3.bb.at_ 0 rfl, D3.bb.at_ 1 rfl, D3.br.at_ 1 rfl⟩)); have hHeld := hHeld (by decide); clear hK K; (try simp only [Act.put, List.setIfInBounds_toArray, List.set_cons_zero, List.set_cons_succ])
                          have D3' := Lib.hid D3
                          have R3' := Lib.hid R3
                          have P3' := Lib.hid P3
                          have B3' := Lib.hid B3
                          have V3' := Lib.hid hv3
                          clear D3 R3 P3 B3 hv3 hb3
                          have hfl : ∀ W : World, (Instr.field 34 (.agg #[.bool b3, .slice A3 n3 c3]) 1).run Tryd.prog W = .ok (.slice A3 n3 c3) W := fun W => field_z _ _ _ _ W
                          (refine wpAnyL_take (i := 3) (oi := _) (v := ?_) rfl (by kernel_rfl) (by kernel_rfl) (by kernel_rfl) (fun _ _ _ h => h) (Or.inl ⟨by first | rfl | kernel_rfl, ?hy15⟩) (by assumption) ?rs15; (case hy15 => (intro w hSw; (try dsimp only at hSw); go_simp; first | done | with_reducible rfl)); case' rs15 => (simp only [List.getElem_toArray, List.getElem_cons_zero, List.getElem_cons_succ, Act.put, List.setIfInBounds_toArray, List.set_cons_zero, List.set_cons_succ])); skip
                          clear hfl
                          (refine wpAnyL_one (i := 6) (o := _) (by kernel_rfl) rfl (fun K hK => ?_); clear hHeld; simp only [List.getElem_toArray, List.getElem_cons_zero, List.getElem_cons_succ]; go_simp; (go_at_call 62; (with_reducible refine (SZ2'.out _ _ _ _ _ V3'.out.zl R3'.out).mono ?_); rintro e w4 ⟨rfl, q2, rfl⟩); refine hK.out _ _ ?_ (fun hHeld => ?_); focus (intro _; exact ⟨(B3'.out.drewN _).at_ 0 rfl, (B3'.out.drewN _).at_ 1 rfl, (D3'.out.drewN _).bb.at_ 0 rfl, (D3'.out.drewN _).bb.at_ 1 rfl, (D3'.out.drewN _).br.at_ 1 rfl⟩)); have hHeld := hHeld (by decide); clear hK K; (try simp only [Act.put, List.setIfInBounds_toArray, List.set_cons_zero, List.set_cons_succ])
                          (refine wpAnyL_take (i := 7) (oi := _) (v := ?_) rfl (by kernel_rfl) (by kernel_rfl) (by kernel_rfl) (fun _ _ _ h => h) (Or.inl ⟨by first | rfl | kernel_rfl, ?hy16⟩) (by assumption) ?rs16; (case hy16 => (intro w hSw; (try dsimp only at hSw); go_simp; first | done | with_reducible rfl)); case' rs16 => (simp only [List.getElem_toArray, List.getElem_cons_zero, List.getElem_cons_succ, Act.put, List.setIfInBounds_toArray, List.set_cons_zero, List.set_cons_succ])); skip
                          refine wpAnyL_done (by kernel_rfl) ?_ _
                          have t150 := (B3'.out.drewN q2).at_ 0 rfl
                          have t151 := (B3'.out.drewN q2).at_ 1 rfl
                          have t60 := (D3'.out.drewN q2).bb.at_ 0 rfl
                          have t61 := (D3'.out.drewN q2).bb.at_ 1 rfl
                          go_wp2_with (go_at_call 21; (with_reducible refine (ADDC.out _ (D3'.out.drewN _).bw (P3'.out.drewN _).v).mono ?_); rintro e w5 ⟨_, rfl, ⟨b5, A5, n5, c5, rfl, hv5⟩, hb5⟩; have B5 := (B3'.out.drewN _).below hb5 B3'.out.lt; have u0 := B5.at_ 0 rfl; have u1 := B5.at_ 1 rfl; have f0 := B5.frozen 0; have f1 := B5.frozen 1)
                          have D5 := (D3'.out.drewN q2).below hb5
                          have R5 := (R3'.out.drewN q2).below hb5
                          have s5 := (D3'.out.drewN q2).sz
                          exact ⟨⟨mv + 1, b5, A5, n5, c5, rfl, by omega, HLE.out, (D5.high hgp _).high hgp _, ⟨ZL.box R5 u0 u1 _ _, hR'.out.fr⟩, B5.set2 _ _, ⟨ZL.box hv5.zl u0 u1 _ _, hv5.fr.mono s5⟩⟩, by simp only [intOf]; omega⟩
                        · rw [cmpv_gt (show R1 < (mv + 1) * Bv by omega)] at SZ2
                          have SZ2' := Lib.hid SZ2
                          have HLE := Lib.hid (show R1 < (mv + 1) * Bv by omega)
                          have HLE0 := Lib.hid hle0
                          clear SZ2 hle hle0 hmB hmB2
                          go_wp2
                          (refine wp_region_L (S := fun w' => w'.cell? ⟨gp, 0, none⟩ = some (.bool bp) ∧ w'.cell? ⟨gp, 1, none⟩ = some (.slice Ap np cp) ∧ w'.cell? ⟨g, 0, none⟩ = some (.bool false) ∧ w'.cell? ⟨g, 1, none⟩ = some (.slice (some adb) n1 c1) ∧ w'.cell? ⟨g + 3, 1, none⟩ = some (.slice Ar nr cr)) (nl := 1000000) (by kernel_rfl) ?_ (fun hHeld => ?_); focus (exact ⟨hB'.out.drew.at_ 0 rfl, hB'.out.drew.at_ 1 rfl, hD'.out.drew.bb.at_ 0 rfl, hD'.out.drew.bb.at_ 1 rfl, hD'.out.drew.br.at_ 1 rfl⟩))
                          (refine wpAnyL_take (i := 0) (oi := _) (v := ?_) rfl (by kernel_rfl) (by kernel_rfl) (by kernel_rfl) (fun _ _ _ h => h) (Or.inl ⟨by first | rfl | kernel_rfl, ?hy17⟩) (by assumption) ?rs17; (case hy17 => (intro w hSw; (try dsimp only at hSw); go_simp; first | done | with_reducible rfl)); case' rs17 => (simp only [List.getElem_toArray, List.getElem_cons_zero, List.getElem_cons_succ, Act.put, List.setIfInBounds_toArray, List.set_cons_zero, List.set_cons_succ])); (refine wpAnyL_take (i := 1) (oi := _) (v := ?_) rfl (by kernel_rfl) (by kernel_rfl) (by kernel_rfl) (fun _ _ _ h => h) (Or.inl ⟨by first | rfl | kernel_rfl, ?hy18⟩) (by assumption) ?rs18; (case hy18 => (intro w hSw; (try dsimp only at hSw); go_simp; first | done | with_reducible rfl)); case' rs18 => (simp only [List.getElem_toArray, List.getElem_cons_zero, List.getElem_cons_succ, Act.put, List.setIfInBounds_toArray, List.set_cons_zero, List.set_cons_succ])); (refine wpAnyL_take (i := 4) (oi := _) (v := ?_) rfl (by kernel_rfl) (by kernel_rfl) (by kernel_rfl) (fun _ _ _ h => h) (Or.inl ⟨by first | rfl | kernel_rfl, ?hy19⟩) (by assumption) ?rs19; (case hy19 => (intro w hSw; (try dsimp only at hSw); go_simp; first | done | with_reducible rfl)); case' rs19 => (simp only [List.getElem_toArray, List.getElem_cons_zero, List.getElem_cons_succ, Act.put, List.setIfInBounds_toArray, List.set_cons_zero, List.set_cons_succ])); (refine wpAnyL_take (i := 5) (oi := _) (v := ?_) rfl (by kernel_rfl) (by kernel_rfl) (by kernel_rfl) (fun _ _ _ h => h) (Or.inl ⟨by first | rfl | kernel_rfl, ?hy20⟩) (by assumption) ?rs20; (case hy20 => (intro w hSw; (try dsimp only at hSw); go_simp; first | done | with_reducible rfl)); case' rs20 => (simp only [List.getElem_toArray, List.getElem_cons_zero, List.getElem_cons_succ, Act.put, List.setIfInBounds_toArray, List.set_cons_zero, List.set_cons_succ])); skip
                          (refine wpAnyL_one (i := 2) (o := _) (by kernel_rfl) rfl (fun K hK => ?_); clear hHeld; simp only [List.getElem_toArray, List.getElem_cons_zero, List.getElem_cons_succ]; go_simp; (go_at_call 21; (with_reducible refine (ADDC.out _ hD'.out.drew.bw hP'.out.zl.drew.v).mono ?_); rintro e w3 ⟨_, rfl, ⟨b3, A3, n3, c3, rfl, hv3⟩, hb3⟩; have D3 := hD'.out.drew.below hb3; have R3 := hR'.out.zl.drew.below hb3; have P3 := hP'.out.zl.drew.below hb3; have B3 := Blk.after hb3 hB'.out rfl hB'.out.lt); refine hK.out _ _ ?_ (fun hHeld => ?_); focus (intro _; exact ⟨B3.at_ 0 rfl, B3.at_ 1 rfl, D3.bb.at_ 0 rfl, D3.bb.at_ 1 rfl, D3.br.at_ 1 rfl⟩)); have hHeld := hHeld (by decide); clear hK K; (try simp only [Act.put, List.setIfInBounds_toArray, List.set_cons_zero, List.set_cons_succ])
                          have D3' := Lib.hid D3
                          have R3' := Lib.hid R3
                          have P3' := Lib.hid P3
                          have B3' := Lib.hid B3
                          have V3' := Lib.hid hv3
                          clear D3 R3 P3 B3 hv3 hb3
                          have hfl : ∀ W : World, (Instr.field 34 (.agg #[.bool b3, .slice A3 n3 c3]) 1).run Tryd.prog W = .ok (.slice A3 n3 c3) W := fun W => field_z _ _ _ _ W
                          (refine wpAnyL_take (i := 3) (oi := _) (v := ?_) rfl (by kernel_rfl) (by kernel_rfl) (by kernel_rfl) (fun _ _ _ h => h) (Or.inl ⟨by first | rfl | kernel_rfl, ?hy21⟩) (by assumption) ?rs21; (case hy21 => (intro w hSw; (try dsimp only at hSw); go_simp; first | done | with_reducible rfl)); case' rs21 => (simp only [List.getElem_toArray, List.getElem_cons_zero, List.getElem_cons_succ, Act.put, List.setIfInBounds_toArray, List.set_cons_zero, List.set_cons_succ])); skip
                          clear hfl
                          (refine wpAnyL_one (i := 6) (o := _) (by kernel_rfl) rfl (fun K hK => ?_); clear hHeld; simp only [List.getElem_toArray, List.getElem_cons_zero, List.getElem_cons_succ]; go_simp; (go_at_call 62; (with_reducible refine (SZ2'.out _ _ _ _ _ V3'.out.zl R3'.out).mono ?_); rintro e w4 ⟨rfl, q2, rfl⟩); refine hK.out _ _ ?_ (fun hHeld => ?_); focus (intro _; exact ⟨(B3'.out.drewN _).at_ 0 rfl, (B3'.out.drewN _).at_ 1 rfl, (D3'.out.drewN _).bb.at_ 0 rfl, (D3'.out.drewN _).bb.at_ 1 rfl, (D3'.out.drewN _).br.at_ 1 rfl⟩)); have hHeld := hHeld (by decide); clear hK K; (try simp only [Act.put, List.setIfInBounds_toArray, List.set_cons_zero, List.set_cons_succ])
                          (refine wpAnyL_take (i := 7) (oi := _) (v := ?_) rfl (by kernel_rfl) (by kernel_rfl) (by kernel_rfl) (fun _ _ _ h => h) (Or.inl ⟨by first | rfl | kernel_rfl, ?hy22⟩) (by assumption) ?rs22; (case hy22 => (intro w hSw; (try dsimp only at hSw); go_simp; first | done | with_reducible rfl)); case' rs22 => (simp only [List.getElem_toArray, List.getElem_cons_zero, List.getElem_cons_succ, Act.put, List.setIfInBounds_toArray, List.set_cons_zero, List.set_cons_succ])); skip
                          refine wpAnyL_done (by kernel_rfl) ?_ _
                          --L6
                          have RSUB : ∀ W, ZV W (.agg #[.bool br, .slice Ar nr cr]) R1 → ZV W (.agg #[.bool bp, .slice Ap np cp]) (mv * Bv) → Calls Tryd.prog 66 #[.agg #[.bool br, .slice Ar nr cr], .agg #[.bool bp, .slice Ap np cp]] W (RetZ W (R1 - mv * Bv)) :=
                            fun W h1 h2 => ZSub_c _ _ _ _ W h1 h2 HRB.out (HBND.out mv q0 (by omega))
                          have RSUB := Lib.hid RSUB
                          have hst := hI'.out.step DX.out HN.out (show k < n by omega) q0 (by rw [← HR1.out]; exact HLE0.out) (by rw [← HR1.out]; exact HLE.out)
                          rw [← HR1.out] at hst
                          have HST := Lib.hid hst
                          have lenQ := hI'.out.len
                          have D4 := Lib.hid (D3'.out.drewN q2)
                          have B4 := Lib.hid (B3'.out.drewN q2)
                          have R4 := Lib.hid (⟨R3'.out.drewN q2, hR'.out.fr⟩ : ZLF (w3.drewN q2) (g + 4) br Ar nr cr R1)
                          have P4 := Lib.hid (⟨P3'.out.drewN q2, hP'.out.fr⟩ : ZLF (w3.drewN q2) (g + 4) bp Ap np cp (mv * Bv))
                          have t21 := D4.out.bq.at_ 1 rfl
                          have tqk := D4.out.bs.at_ k (by omega)
                          have fqk := D4.out.bs.frozen k
                          have u150 := B4.out.at_ 0 rfl
                          have u151 := B4.out.at_ 1 rfl
                          have u80 := D4.out.br.at_ 0 rfl
                          have u81 := D4.out.br.at_ 1 rfl
                          have d4 := D4.out.setQ k mv
                          have hp4 : (⟨g + 1, k, none⟩ : Addr).block < g + 4 := by simp
                          have R5 : Hid (ZL ((w3.drewN q2).setCell ⟨g + 1, k, none⟩ (.int .i64 mv)) br Ar nr cr R1) := ZLF.far R4.out hp4 _
                          have P5 : Hid (ZL ((w3.drewN q2).setCell ⟨g + 1, k, none⟩ (.int .i64 mv)) bp Ap np cp (mv * Bv)) := ZLF.far P4.out hp4 _
                          have D5 := Lib.hid d4
                          have s5 := d4.sz
                          clear hst lenQ d4 hI'
                          go_wp2_with (go_at_call 66; (with_reducible refine (RSUB.out _ R5.out.v P5.out.v).mono ?_); rintro e w6 ⟨_, rfl, ⟨b6, A6, n6, c6, rfl, hv6⟩, hb6⟩; have D6 := D5.out.below hb6; have v0 := D6.br.at_ 0 rfl; have v1 := D6.br.at_ 1 rfl; have f0 := D6.br.frozen 0; have f1 := D6.br.frozen 1)
                          exact ⟨⟨k, _, _, b6, A6, n6, c6, by simp, by omega, HST.out, D6.setR _ _, ⟨ZL.box hv6.zl v0 v1 _ _, hv6.fr.mono s5⟩⟩, by simp only [intOf]; omega⟩
        · obtain rfl : k1 = 0 := by omega
          --L7
          have hdone := hI.out.done
          have hQd := hI.out.dig
          have hQl := hI.out.len
          have hR0 := hI.out.r0
          have hR1 := hI.out.r1
          obtain ⟨q0, eq0⟩ : ∃ q0, q0 = val QL := ⟨_, rfl⟩
          have hq0 : 0 ≤ q0 := by rw [eq0]; exact val_nonneg hQd
          have hnum : q0 * Bv + R = (a.natAbs : Int) := by rw [eq0, hdone]; exact HX.out.2
          have TR := Lib.hid (fun W (h : DM w w1 W g n #[.bool x, .slice A n c] #[.bool y, .slice B m d] #[.bool false, .slice (some adb) n1 c1] #[.bool br, .slice Ar nr cr] QL) => trim_c false (some ⟨g + 1, 0, none⟩) n n QL W (by have := h.bs.sl n (by omega); rw [hQl] at this; exact this) hQd (by omega))
          have esg : sg false (val QL) = q0 := by rw [eq0]; rfl
          rw [esg] at TR
          have hqa : q0 ≤ (a.natAbs : Int) := by
            have := Int.mul_le_mul_of_nonneg_left (show (1 : Int) ≤ Bv by omega) hq0
            omega
          have hqc := Lib.hid (succ_bnd hq0 (by have := BAA.out; omega : q0.natAbs < big 900000))
          have hqb := Lib.hid (show q0.natAbs < big 1000000 by have := big_mono (show 900000 ≤ 1000000 by decide); have := BAA.out; omega)
          have hrb := Lib.hid (show R.natAbs < big 1000000 by have := HBND.out 1 (by omega) (by omega); rw [Int.one_mul] at this; omega)
          have HNUM := Lib.hid hnum
          have hD' := Lib.hid hD
          have hR' := Lib.hid hR
          have HYb := Lib.hid (show Bv.natAbs < big 1000000 by have := HBND.out 1 (by omega) (by omega); rwa [Int.one_mul] at this)
          clear hdone hQd hQl eq0 esg hqa hnum hI hD hR
          go_upto_region 28 with fail
          go_cut [8] (fun s8 wx => s8 = .pointer (some ⟨g + 3, 0, none⟩) ∧ ∃ (bq : Bool) (Aq : Option Addr) (nq cq : Nat), TM w w1 wx g #[.bool x, .slice A n c] #[.bool y, .slice B m d] #[.bool false, .slice (some adb) n1 c1] #[.bool bq, .slice Aq nq cq] #[.bool br, .slice Ar nr cr] ∧ ZL wx bq Aq nq cq q0 ∧ ZL wx br Ar nr cr R)
          case first =>
            have t0 := hD'.out.bq.at_ 0 rfl
            have t1 := hD'.out.bq.at_ 1 rfl
            go_wp2_with (go_at_call 64; (with_reducible refine (TR.out _ hD'.out).mono ?_); rintro e w3 ⟨b3, n3, rfl, hn3, hv3, hb3⟩; have D3 := hD'.out.below hb3; have v0 := D3.bq.at_ 0 rfl; have v1 := D3.bq.at_ 1 rfl; have f0 := D3.bq.frozen 0; have f1 := D3.bq.frozen 1)
            go_meet
            have R3 := hR'.out.below hb3
            exact ⟨rfl, _, _, _, _, (TM.of D3).setQ _ _, ZL.box hv3 v0 v1 _ _, ZL.box R3 v0 v1 _ _⟩
          case rest =>
            clear hD' hR' TR
            obtain ⟨rfl, bq, Aq, nq, cq, hT, hQ, hR⟩ := hcut
            --L8
            obtain ⟨hnr0, hnr1⟩ := hR.zero
            have p00 := hT.b0.at_ 0 rfl
            have p81 := hT.br.at_ 1 rfl
            have hT' := Lib.hid hT
            have hQ' := Lib.hid hQ
            have hR' := Lib.hid hR
            have HNR0 := Lib.hid hnr0
            have HNR1 := Lib.hid hnr1
            have HEQ := Lib.hid (And.intro EBV.out (And.intro HNUM.out (And.intro hR0 hR1)))
            have XA := Lib.hid HX.out.1
            have YA := Lib.hid HYB.out
            clear hT hQ hR hnr0 hnr1
            cases x
            · have hRp : True := trivial
              cases y
              · have E0 := eu_ff h0 HEQ.out.1 HEQ.out.2.1 HEQ.out.2.2.1 HEQ.out.2.2.2 XA.out YA.out
                have E1 := Lib.hid E0.1
                have E2 := Lib.hid E0.2
                clear E0
                have hqb2 : Hid ((q0).natAbs < big 1000000) := hqb.out
                have p00 := hT'.out.b0.at_ 0 rfl
                have p10 := hT'.out.b1.at_ 0 rfl
                have p70 := hT'.out.bq.at_ 0 rfl
                have p71 := hT'.out.bq.at_ 1 rfl
                have p80 := hT'.out.br.at_ 0 rfl
                have p81 := hT'.out.br.at_ 1 rfl
                have p20 := hT'.out.b2.at_ 0 rfl
                have p21 := hT'.out.b2.at_ 1 rfl
                have p30 := hT'.out.b3.at_ 0 rfl
                have p31 := hT'.out.b3.at_ 1 rfl
                have f20 := hT'.out.b2.frozen 0
                have f21 := hT'.out.b2.frozen 1
                have f30 := hT'.out.b3.frozen 0
                have f31 := hT'.out.b3.frozen 1
                have hgg := hT'.out.hg
                go_wp2
                go_region
                all_goals
                  have Q8 := Lib.hid (ZL.box hQ'.out p20 p21 (.bool bq) (.slice Aq nq cq))
                  have R8 := Lib.hid (ZL.box hR'.out p20 p21 (.bool bq) (.slice Aq nq cq))
                  have B8 := Lib.hid (hT'.out.b3.far2 (g' := w.heap.size + 2) (by omega) (.bool bq) (.slice Aq nq cq))
                  have L8 := Lib.hid (below_set2 hT'.out.lo (show w.heap.size ≤ w.heap.size + 2 by omega) (.bool bq) (.slice Aq nq cq))
                  go_wp2
                  refine bodyPost_ret (v := .tuple #[.agg #[.bool bq, .slice Aq nq cq], .agg #[.bool br, .slice Ar nr cr]]) (by simp [results, Tryd.results24, go_sem, p20, p21, p30, p31]) rfl ?_
                  rw [E1.out, E2.out]
                  exact ⟨_, _, rfl, (ZL.box Q8.out (B8.out.at_ 0 rfl) (B8.out.at_ 1 rfl) _ _).drew.v, (ZL.box R8.out (B8.out.at_ 0 rfl) (B8.out.at_ 1 rfl) _ _).drew.v, (below_set2 (g := w.heap.size + 3) L8.out (by omega) _ _).drew⟩
              · have E0 := eu_ft h0 HEQ.out.1 HEQ.out.2.1 HEQ.out.2.2.1 HEQ.out.2.2.2 XA.out YA.out
                have E1 := Lib.hid E0.1
                have E2 := Lib.hid E0.2
                clear E0
                have hqb2 : Hid ((q0).natAbs < big 1000000) := hqb.out
                have p00 := hT'.out.b0.at_ 0 rfl
                have p10 := hT'.out.b1.at_ 0 rfl
                have p70 := hT'.out.bq.at_ 0 rfl
                have p71 := hT'.out.bq.at_ 1 rfl
                have p80 := hT'.out.br.at_ 0 rfl
                have p81 := hT'.out.br.at_ 1 rfl
                have p20 := hT'.out.b2.at_ 0 rfl
                have p21 := hT'.out.b2.at_ 1 rfl
                have p30 := hT'.out.b3.at_ 0 rfl
                have p31 := hT'.out.b3.at_ 1 rfl
                have f20 := hT'.out.b2.frozen 0
                have f21 := hT'.out.b2.frozen 1
                have f30 := hT'.out.b3.frozen 0
                have f31 := hT'.out.b3.frozen 1
                have hgg := hT'.out.hg
                go_wp2_with (go_at_call 36; (with_reducible refine (ZNeg_c _ _ _ hQ'.out.v hqb2.out).mono ?_); rintro e w9 ⟨_, rfl, ⟨b9, A9, n9, c9, rfl, hv9⟩, hb9⟩; have T9 := hT'.out.below hb9; have R9 := hR'.out.below hb9; have v0 := T9.bq.at_ 0 rfl; have v1 := T9.bq.at_ 1 rfl; have f0 := T9.bq.frozen 0; have f1 := T9.bq.frozen 1; clear p00 p10 p70 p71 p80 p81 p20 p21 p30 p31 f20 f21 f30 f31)
                have T10 := Lib.hid (T9.setQ (.bool b9) (.slice A9 n9 c9))
                have Q10 := Lib.hid (ZL.box hv9 v0 v1 (.bool b9) (.slice A9 n9 c9))
                have R10 := Lib.hid (ZL.box R9 v0 v1 (.bool b9) (.slice A9 n9 c9))
                have p70 := T10.out.bq.at_ 0 rfl
                have p71 := T10.out.bq.at_ 1 rfl
                have p80 := T10.out.br.at_ 0 rfl
                have p81 := T10.out.br.at_ 1 rfl
                have p20 := T10.out.b2.at_ 0 rfl
                have p21 := T10.out.b2.at_ 1 rfl
                have p30 := T10.out.b3.at_ 0 rfl
                have p31 := T10.out.b3.at_ 1 rfl
                have f20 := T10.out.b2.frozen 0
                have f21 := T10.out.b2.frozen 1
                have f30 := T10.out.b3.frozen 0
                have f31 := T10.out.b3.frozen 1
                clear T9 R9 v0 v1 f0 f1 hb9 hv9
                go_region
                all_goals
                  have Q8 := Lib.hid (ZL.box Q10.out p20 p21 (.bool b9) (.slice A9 n9 c9))
                  have R8 := Lib.hid (ZL.box R10.out p20 p21 (.bool b9) (.slice A9 n9 c9))
                  have B8 := Lib.hid (T10.out.b3.far2 (g' := w.heap.size + 2) (by omega) (.bool b9) (.slice A9 n9 c9))
                  have L8 := Lib.hid (below_set2 T10.out.lo (show w.heap.size ≤ w.heap.size + 2 by omega) (.bool b9) (.slice A9 n9 c9))
                  go_wp2
                  refine bodyPost_ret (v := .tuple #[.agg #[.bool b9, .slice A9 n9 c9], .agg #[.bool br, .slice Ar nr cr]]) (by simp [results, Tryd.results24, go_sem, p20, p21, p30, p31]) rfl ?_
                  rw [E1.out, E2.out]
                  exact ⟨_, _, rfl, (ZL.box Q8.out (B8.out.at_ 0 rfl) (B8.out.at_ 1 rfl) _ _).drew.v, (ZL.box R8.out (B8.out.at_ 0 rfl) (B8.out.at_ 1 rfl) _ _).drew.v, (below_set2 (g := w.heap.size + 3) L8.out (by omega) _ _).drew⟩
            · by_cases hpos : 0 < nr
              · have hRp : 0 < R := by have := HNR1.out hpos; omega
                have NC1 := Lib.hid (fun W => N_c 1 (by omega) (by omega) W)
                have ADD1 := Lib.hid (fun W vb (h1 : ZV W (.agg #[.bool bq, .slice Aq nq cq]) q0) (h2 : ZV W vb 1) => ZAdd_c _ vb q0 1 W h1 h2 hqb.out (by have := big_mono (show 3 ≤ 1000000 by decide); rw [big3] at this; simp; omega))
                have SUB1 := Lib.hid (fun W (h1 : Below g w1 W) (h2 : ZV W (.agg #[.bool br, .slice Ar nr cr]) R) => ZSub_c _ _ Bv R W (ABZ.out W h1).v h2 HYb.out hrb.out)
                have p70 := hT'.out.bq.at_ 0 rfl
                go_upto_region 30 with fail
                (refine wp_region_L (S := fun w' => w'.cell? ⟨g + 2, 0, none⟩ = some (.bool bq) ∧ w'.cell? ⟨g + 2, 1, none⟩ = some (.slice Aq nq cq) ∧ w'.cell? ⟨g, 0, none⟩ = some (.bool false) ∧ w'.cell? ⟨g, 1, none⟩ = some (.slice (some adb) n1 c1) ∧ w'.cell? ⟨g + 3, 0, none⟩ = some (.bool br) ∧ w'.cell? ⟨g + 3, 1, none⟩ = some (.slice Ar nr cr)) (nl := 6) (by kernel_rfl) ?_ (fun hHeld => ?_); focus (exact ⟨hT'.out.drew.bq.at_ 0 rfl, hT'.out.drew.bq.at_ 1 rfl, hT'.out.drew.bb.at_ 0 rfl, hT'.out.drew.bb.at_ 1 rfl, hT'.out.drew.br.at_ 0 rfl, hT'.out.drew.br.at_ 1 rfl⟩))
                (refine wpAnyL_take (i := 0) (oi := _) (v := ?_) rfl (by kernel_rfl) (by kernel_rfl) (by kernel_rfl) (fun _ _ _ h => h) (Or.inl ⟨by first | rfl | kernel_rfl, ?hy23⟩) (by assumption) ?rs23; (case hy23 => (intro w hSw; (try dsimp only at hSw); go_simp; first | done | with_reducible rfl)); case' rs23 => (simp only [List.getElem_toArray, List.getElem_cons_zero, List.getElem_cons_succ, Act.put, List.setIfInBounds_toArray, List.set_cons_zero, List.set_cons_succ])); (refine wpAnyL_take (i := 3) (oi := _) (v := ?_) rfl (by kernel_rfl) (by kernel_rfl) (by kernel_rfl) (fun _ _ _ h => h) (Or.inl ⟨by first | rfl | kernel_rfl, ?hy24⟩) (by assumption) ?rs24; (case hy24 => (intro w hSw; (try dsimp only at hSw); go_simp; first | done | with_reducible rfl)); case' rs24 => (simp only [List.getElem_toArray, List.getElem_cons_zero, List.getElem_cons_succ, Act.put, List.setIfInBounds_toArray, List.set_cons_zero, List.set_cons_succ])); (refine wpAnyL_take (i := 4) (oi := _) (v := ?_) rfl (by kernel_rfl) (by kernel_rfl) (by kernel_rfl) (fun _ _ _ h => h) (Or.inl ⟨by first | rfl | kernel_rfl, ?hy25⟩) (by assumption) ?rs25; (case hy25 => (intro w hSw; (try dsimp only at hSw); go_simp; first | done | with_reducible rfl)); case' rs25 => (simp only [List.getElem_toArray, List.getElem_cons_zero, List.getElem_cons_succ, Act.put, List.setIfInBounds_toArray, List.set_cons_zero, List.set_cons_succ])); skip
                (refine wpAnyL_one (i := 1) (o := _) (by kernel_rfl) rfl (fun K hK => ?_); clear hHeld; simp only [List.getElem_toArray, List.getElem_cons_zero, List.getElem_cons_succ]; go_simp; (go_at_call 22; (with_reducible refine (NC1.out _).mono ?_); rintro e w3 ⟨_, rfl, ⟨b3, A3, n3, c3, rfl, hv3⟩, hb3⟩; have T3 := hT'.out.drew.below hb3; have R3 := hR'.out.drew.below hb3; have Q3 := hQ'.out.drew.below hb3); refine hK.out _ _ ?_ (fun hHeld => ?_); focus (intro _; exact ⟨T3.bq.at_ 0 rfl, T3.bq.at_ 1 rfl, T3.bb.at_ 0 rfl, T3.bb.at_ 1 rfl, T3.br.at_ 0 rfl, T3.br.at_ 1 rfl⟩)); have hHeld := hHeld (by decide); clear hK K; (try simp only [Act.put, List.setIfInBounds_toArray, List.set_cons_zero, List.set_cons_succ])
                (refine wpAnyL_one (i := 2) (o := _) (by kernel_rfl) rfl (fun K hK => ?_); clear hHeld; simp only [List.getElem_toArray, List.getElem_cons_zero, List.getElem_cons_succ]; go_simp; (go_at_call 21; (with_reducible refine (ADD1.out _ _ Q3.v hv3.v).mono ?_); rintro e w4 ⟨_, rfl, ⟨b4, A4, n4, c4, rfl, hv4⟩, hb4⟩; have T4 := T3.below hb4; have R4 := R3.below hb4); refine hK.out _ _ ?_ (fun hHeld => ?_); focus (intro _; exact ⟨T4.bq.at_ 0 rfl, T4.bq.at_ 1 rfl, T4.bb.at_ 0 rfl, T4.bb.at_ 1 rfl, T4.br.at_ 0 rfl, T4.br.at_ 1 rfl⟩)); have hHeld := hHeld (by decide); clear hK K; (try simp only [Act.put, List.setIfInBounds_toArray, List.set_cons_zero, List.set_cons_succ])
                (refine wpAnyL_one (i := 5) (o := _) (by kernel_rfl) rfl (fun K hK => ?_); clear hHeld; simp only [List.getElem_toArray, List.getElem_cons_zero, List.getElem_cons_succ]; go_simp; (go_at_call 66; (with_reducible refine (SUB1.out _ T4.bw R4.v).mono ?_); rintro e w5 ⟨_, rfl, ⟨b5, A5, n5, c5, rfl, hv5⟩, hb5⟩; have T5 := T4.below hb5; have Q5 := hv4.below hb5); refine hK.out _ _ ?_ (fun hHeld => ?_); focus (intro _; exact ⟨T5.bq.at_ 0 rfl, T5.bq.at_ 1 rfl, T5.bb.at_ 0 rfl, T5.bb.at_ 1 rfl, T5.br.at_ 0 rfl, T5.br.at_ 1 rfl⟩)); have hHeld := hHeld (by decide); clear hK K; (try simp only [Act.put, List.setIfInBounds_toArray, List.set_cons_zero, List.set_cons_succ])
                have q20 := T5.bq.at_ 0 rfl
                have q21 := T5.bq.at_ 1 rfl
                have q30 := T5.br.at_ 0 rfl
                have q31 := T5.br.at_ 1 rfl
                have fq0 := T5.bq.frozen 0
                have fq1 := T5.bq.frozen 1
                have fr0 := T5.br.frozen 0
                have fr1 := T5.br.frozen 1
                have T6 := T5.setQ (.bool b4) (.slice A4 n4 c4)
                have T7 := Lib.hid (T6.setR (.bool b5) (.slice A5 n5 c5))
                have Q7 := Lib.hid (ZL.box (ZL.box Q5 q20 q21 (.bool b4) (.slice A4 n4 c4)) (T6.br.at_ 0 rfl) (T6.br.at_ 1 rfl) (.bool b5) (.slice A5 n5 c5))
                have R7 := Lib.hid (ZL.box (ZL.box hv5.zl q20 q21 (.bool b4) (.slice A4 n4 c4)) (T6.br.at_ 0 rfl) (T6.br.at_ 1 rfl) (.bool b5) (.slice A5 n5 c5))
                clear T3 T4 T5 T6 R3 R4 Q3 Q5 hb3 hb4 hb5 hv3 hv4 hv5
                (refine wpAnyL_one (i := 6) (o := _) (by kernel_rfl) rfl (fun K hK => ?_); clear hHeld; simp only [List.getElem_toArray, List.getElem_cons_zero, List.getElem_cons_succ]; go_simp; refine hK.out _ _ ?_ (fun hHeld => ?_); focus (intro h; exact absurd h (by decide))); clear hK K; (try simp only [Act.put, List.setIfInBounds_toArray, List.set_cons_zero, List.set_cons_succ])
                (refine wpAnyL_one (i := 7) (o := _) (by kernel_rfl) rfl (fun K hK => ?_); clear hHeld; simp only [List.getElem_toArray, List.getElem_cons_zero, List.getElem_cons_succ]; go_simp; refine hK.out _ _ ?_ (fun hHeld => ?_); focus (intro h; exact absurd h (by decide))); clear hK K; (try simp only [Act.put, List.setIfInBounds_toArray, List.set_cons_zero, List.set_cons_succ])
                refine wpAnyL_done (by kernel_rfl) ?_ _
                clear q20 q21 q30 q31 fq0 fq1 fr0 fr1 p00 p81 p70
                cases y
                · have E0 := eu_tf1 h0 HEQ.out.1 HEQ.out.2.1 HEQ.out.2.2.1 HEQ.out.2.2.2 XA.out YA.out hRp
                  have E1 := Lib.hid E0.1
                  have E2 := Lib.hid E0.2
                  clear E0
                  have hqb2 : Hid ((q0 + 1).natAbs < big 1000000) := hqc.out
                  have p00 := T7.out.b0.at_ 0 rfl
                  have p10 := T7.out.b1.at_ 0 rfl
                  have p70 := T7.out.bq.at_ 0 rfl
                  have p71 := T7.out.bq.at_ 1 rfl
                  have p80 := T7.out.br.at_ 0 rfl
                  have p81 := T7.out.br.at_ 1 rfl
                  have p20 := T7.out.b2.at_ 0 rfl
                  have p21 := T7.out.b2.at_ 1 rfl
                  have p30 := T7.out.b3.at_ 0 rfl
                  have p31 := T7.out.b3.at_ 1 rfl
                  have f20 := T7.out.b2.frozen 0
                  have f21 := T7.out.b2.frozen 1
                  have f30 := T7.out.b3.frozen 0
                  have f31 := T7.out.b3.frozen 1
                  have hgg := T7.out.hg
                  go_wp2_with (go_at_call 36; (with_reducible refine (ZNeg_c _ _ _ Q7.out.v hqb2.out).mono ?_); rintro e w9 ⟨_, rfl, ⟨b9, A9, n9, c9, rfl, hv9⟩, hb9⟩; have T9 := T7.out.below hb9; have R9 := R7.out.below hb9; have v0 := T9.bq.at_ 0 rfl; have v1 := T9.bq.at_ 1 rfl; have f0 := T9.bq.frozen 0; have f1 := T9.bq.frozen 1; clear p00 p10 p70 p71 p80 p81 p20 p21 p30 p31 f20 f21 f30 f31)
                  have T10 := Lib.hid (T9.setQ (.bool b9) (.slice A9 n9 c9))
                  have Q10 := Lib.hid (ZL.box hv9 v0 v1 (.bool b9) (.slice A9 n9 c9))
                  have R10 := Lib.hid (ZL.box R9 v0 v1 (.bool b9) (.slice A9 n9 c9))
                  have p70 := T10.out.bq.at_ 0 rfl
                  have p71 := T10.out.bq.at_ 1 rfl
                  have p80 := T10.out.br.at_ 0 rfl
                  have p81 := T10.out.br.at_ 1 rfl
                  have p20 := T10.out.b2.at_ 0 rfl
                  have p21 := T10.out.b2.at_ 1 rfl
                  have p30 := T10.out.b3.at_ 0 rfl
                  have p31 := T10.out.b3.at_ 1 rfl
                  have f20 := T10.out.b2.frozen 0
                  have f21 := T10.out.b2.frozen 1
                  have f30 := T10.out.b3.frozen 0
                  have f31 := T10.out.b3.frozen 1
                  clear T9 R9 v0 v1 f0 f1 hb9 hv9
                  go_region
                  all_goals
                    have Q8 := Lib.hid (ZL.box Q10.out p20 p21 (.bool b9) (.slice A9 n9 c9))
                    have R8 := Lib.hid (ZL.box R10.out p20 p21 (.bool b9) (.slice A9 n9 c9))
                    have B8 := Lib.hid (T10.out.b3.far2 (g' := w.heap.size + 2) (by omega) (.bool b9) (.slice A9 n9 c9))
                    have L8 := Lib.hid (below_set2 T10.out.lo (show w.heap.size ≤ w.heap.size + 2 by omega) (.bool b9) (.slice A9 n9 c9))
                    go_wp2
                    refine bodyPost_ret (v := .tuple #[.agg #[.bool b9, .slice A9 n9 c9], .agg #[.bool b5, .slice A5 n5 c5]]) (by simp [results, Tryd.results24, go_sem, p20, p21, p30, p31]) rfl ?_
                    rw [E1.out, E2.out]
                    exact ⟨_, _, rfl, (ZL.box Q8.out (B8.out.at_ 0 rfl) (B8.out.at_ 1 rfl) _ _).drew.v, (ZL.box R8.out (B8.out.at_ 0 rfl) (B8.out.at_ 1 rfl) _ _).drew.v, (below_set2 (g := w.heap.size + 3) L8.out (by omega) _ _).drew⟩
                · have E0 := eu_tt1 h0 HEQ.out.1 HEQ.out.2.1 HEQ.out.2.2.1 HEQ.out.2.2.2 XA.out YA.out hRp
                  have E1 := Lib.hid E0.1
                  have E2 := Lib.hid E0.2
                  clear E0
                  have hqb2 : Hid ((q0 + 1).natAbs < big 1000000) := hqc.out
                  have p00 := T7.out.b0.at_ 0 rfl
                  have p10 := T7.out.b1.at_ 0 rfl
                  have p70 := T7.out.bq.at_ 0 rfl
                  have p71 := T7.out.bq.at_ 1 rfl
                  have p80 := T7.out.br.at_ 0 rfl
                  have p81 := T7.out.br.at_ 1 rfl
                  have p20 := T7.out.b2.at_ 0 rfl
                  have p21 := T7.out.b2.at_ 1 rfl
                  have p30 := T7.out.b3.at_ 0 rfl
                  have p31 := T7.out.b3.at_ 1 rfl
                  have f20 := T7.out.b2.frozen 0
                  have f21 := T7.out.b2.frozen 1
                  have f30 := T7.out.b3.frozen 0
                  have f31 := T7.out.b3.frozen 1
                  have hgg := T7.out.hg
                  go_wp2
                  go_region
                  all_goals
                    have Q8 := Lib.hid (ZL.box Q7.out p20 p21 (.bool b4) (.slice A4 n4 c4))
                    have R8 := Lib.hid (ZL.box R7.out p20 p21 (.bool b4) (.slice A4 n4 c4))
                    have B8 := Lib.hid (T7.out.b3.far2 (g' := w.heap.size + 2) (by omega) (.bool b4) (.slice A4 n4 c4))
                    have L8 := Lib.hid (below_set2 T7.out.lo (show w.heap.size ≤ w.heap.size + 2 by omega) (.bool b4) (.slice A4 n4 c4))
                    go_wp2
                    refine bodyPost_ret (v := .tuple #[.agg #[.bool b4, .slice A4 n4 c4], .agg #[.bool b5, .slice A5 n5 c5]]) (by simp [results, Tryd.results24, go_sem, p20, p21, p30, p31]) rfl ?_
                    rw [E1.out, E2.out]
                    exact ⟨_, _, rfl, (ZL.box Q8.out (B8.out.at_ 0 rfl) (B8.out.at_ 1 rfl) _ _).drew.v, (ZL.box R8.out (B8.out.at_ 0 rfl) (B8.out.at_ 1 rfl) _ _).drew.v, (below_set2 (g := w.heap.size + 3) L8.out (by omega) _ _).drew⟩
              · obtain rfl : nr = 0 := by omega
                have hRp : ¬ 0 < R := by have := HNR0.out rfl; omega
                cases y
                · have E0 := eu_tf0 h0 HEQ.out.1 HEQ.out.2.1 HEQ.out.2.2.1 HEQ.out.2.2.2 XA.out YA.out hRp
                  have E1 := Lib.hid E0.1
                  have E2 := Lib.hid E0.2
                  clear E0
                  have hqb2 : Hid ((q0).natAbs < big 1000000) := hqb.out
                  have p00 := hT'.out.b0.at_ 0 rfl
                  have p10 := hT'.out.b1.at_ 0 rfl
                  have p70 := hT'.out.bq.at_ 0 rfl
                  have p71 := hT'.out.bq.at_ 1 rfl
                  have p80 := hT'.out.br.at_ 0 rfl
                  have p81 := hT'.out.br.at_ 1 rfl
                  have p20 := hT'.out.b2.at_ 0 rfl
                  have p21 := hT'.out.b2.at_ 1 rfl
                  have p30 := hT'.out.b3.at_ 0 rfl
                  have p31 := hT'.out.b3.at_ 1 rfl
                  have f20 := hT'.out.b2.frozen 0
                  have f21 := hT'.out.b2.frozen 1
                  have f30 := hT'.out.b3.frozen 0
                  have f31 := hT'.out.b3.frozen 1
                  have hgg := hT'.out.hg
                  go_wp2_with (go_at_call 36; (with_reducible refine (ZNeg_c _ _ _ hQ'.out.v hqb2.out).mono ?_); rintro e w9 ⟨_, rfl, ⟨b9, A9, n9, c9, rfl, hv9⟩, hb9⟩; have T9 := hT'.out.below hb9; have R9 := hR'.out.below hb9; have v0 := T9.bq.at_ 0 rfl; have v1 := T9.bq.at_ 1 rfl; have f0 := T9.bq.frozen 0; have f1 := T9.bq.frozen 1; clear p00 p10 p70 p71 p80 p81 p20 p21 p30 p31 f20 f21 f30 f31)
                  have T10 := Lib.hid (T9.setQ (.bool b9) (.slice A9 n9 c9))
                  have Q10 := Lib.hid (ZL.box hv9 v0 v1 (.bool b9) (.slice A9 n9 c9))
                  have R10 := Lib.hid (ZL.box R9 v0 v1 (.bool b9) (.slice A9 n9 c9))
                  have p70 := T10.out.bq.at_ 0 rfl
                  have p71 := T10.out.bq.at_ 1 rfl
                  have p80 := T10.out.br.at_ 0 rfl
                  have p81 := T10.out.br.at_ 1 rfl
                  have p20 := T10.out.b2.at_ 0 rfl
                  have p21 := T10.out.b2.at_ 1 rfl
                  have p30 := T10.out.b3.at_ 0 rfl
                  have p31 := T10.out.b3.at_ 1 rfl
                  have f20 := T10.out.b2.frozen 0
                  have f21 := T10.out.b2.frozen 1
                  have f30 := T10.out.b3.frozen 0
                  have f31 := T10.out.b3.frozen 1
                  clear T9 R9 v0 v1 f0 f1 hb9 hv9
                  go_region
                  all_goals
                    have Q8 := Lib.hid (ZL.box Q10.out p20 p21 (.bool b9) (.slice A9 n9 c9))
                    have R8 := Lib.hid (ZL.box R10.out p20 p21 (.bool b9) (.slice A9 n9 c9))
                    have B8 := Lib.hid (T10.out.b3.far2 (g' := w.heap.size + 2) (by omega) (.bool b9) (.slice A9 n9 c9))
                    have L8 := Lib.hid (below_set2 T10.out.lo (show w.heap.size ≤ w.heap.size + 2 by omega) (.bool b9) (.slice A9 n9 c9))
                    go_wp2
                    refine bodyPost_ret (v := .tuple #[.agg #[.bool b9, .slice A9 n9 c9], .agg #[.bool br, .slice Ar 0 cr]]) (by simp [results, Tryd.results24, go_sem, p20, p21, p30, p31]) rfl ?_
                    rw [E1.out, E2.out]
                    exact ⟨_, _, rfl, (ZL.box Q8.out (B8.out.at_ 0 rfl) (B8.out.at_ 1 rfl) _ _).drew.v, (ZL.box R8.out (B8.out.at_ 0 rfl) (B8.out.at_ 1 rfl) _ _).drew.v, (below_set2 (g := w.heap.size + 3) L8.out (by omega) _ _).drew⟩
                · have E0 := eu_tt0 h0 HEQ.out.1 HEQ.out.2.1 HEQ.out.2.2.1 HEQ.out.2.2.2 XA.out YA.out hRp
                  have E1 := Lib.hid E0.1
                  have E2 := Lib.hid E0.2
                  clear E0
                  have hqb2 : Hid ((q0).natAbs < big 1000000) := hqb.out
                  have p00 := hT'.out.b0.at_ 0 rfl
                  have p10 := hT'.out.b1.at_ 0 rfl
                  have p70 := hT'.out.bq.at_ 0 rfl
                  have p71 := hT'.out.bq.at_ 1 rfl
                  have p80 := hT'.out.br.at_ 0 rfl
                  have p81 := hT'.out.br.at_ 1 rfl
                  have p20 := hT'.out.b2.at_ 0 rfl
                  have p21 := hT'.out.b2.at_ 1 rfl
                  have p30 := hT'.out.b3.at_ 0 rfl
                  have p31 := hT'.out.b3.at_ 1 rfl
                  have f20 := hT'.out.b2.frozen 0
                  have f21 := hT'.out.b2.frozen 1
                  have f30 := hT'.out.b3.frozen 0
                  have f31 := hT'.out.b3.frozen 1
                  have hgg := hT'.out.hg
                  go_wp2
                  go_region
                  all_goals
                    have Q8 := Lib.hid (ZL.box hQ'.out p20 p21 (.bool bq) (.slice Aq nq cq))
                    have R8 := Lib.hid (ZL.box hR'.out p20 p21 (.bool bq) (.slice Aq nq cq))
                    have B8 := Lib.hid (hT'.out.b3.far2 (g' := w.heap.size + 2) (by omega) (.bool bq) (.slice Aq nq cq))
                    have L8 := Lib.hid (below_set2 hT'.out.lo (show w.heap.size ≤ w.heap.size + 2 by omega) (.bool bq) (.slice Aq nq cq))
                    go_wp2
                    refine bodyPost_ret (v := .tuple #[.agg #[.bool bq, .slice Aq nq cq], .agg #[.bool br, .slice Ar 0 cr]]) (by simp [results, Tryd.results24, go_sem, p20, p21, p30, p31]) rfl ?_
                    rw [E1.out, E2.out]
                    exact ⟨_, _, rfl, (ZL.box Q8.out (B8.out.at_ 0 rfl) (B8.out.at_ 1 rfl) _ _).drew.v, (ZL.box R8.out (B8.out.at_ 0 rfl) (B8.out.at_ 1 rfl) _ _).drew.v, (below_set2 (g := w.heap.size + 3) L8.out (by omega) _ _).drew⟩
end ZC
end Go.Proofs.YtnpeokgjfnobmaaDoor

/-
  Strings as lists of bytes; the decimal text of a number.
-/
namespace Go.Proofs.YtnpeokgjfnobmaaDoor
set_option linter.unusedVariables false
set_option linter.unusedSimpArgs false
open Go.RowKit
set_option linter.unusedVariables false
def bs (L : List UInt8) : ByteArray := ⟨L.toArray⟩
theorem bs_size (L : List UInt8) : (bs L).size = L.length := by show L.toArray.size = _; simp
theorem bs_app (L M : List UInt8) : bs L ++ bs M = bs (L ++ M) := ByteArray.mk_append_mk L M
theorem bs_toList (L : List UInt8) : (bs L).toList = L := ByteArray.toList_mk L
theorem bs_inj {L M : List UInt8} (h : bs L = bs M) : L = M := by
  have := congrArg (fun b : ByteArray => b.data.toList) h
  simpa [bs] using this
/-- one digit -/
def dg (n : Nat) : UInt8 := UInt8.ofNat (48 + n % 10)
def dec (n : Nat) : List UInt8 := if n < 10 then [dg n] else dec (n / 10) ++ [dg n]
termination_by n
decreasing_by omega
theorem dec_small {n : Nat} (h : n < 10) : dec n = [dg n] := by rw [dec, if_pos h]
theorem dec_more {n : Nat} (h : ¬ n < 10) : dec n = dec (n / 10) ++ [dg n] := by rw [dec, if_neg h]
theorem dec_len (n : Nat) : (dec n).length ≤ n + 1 := by
  induction n using Nat.strongRecOn with
  | ind n ih =>
    by_cases h : n < 10
    · rw [dec_small h]; simp
    · rw [dec_more h]
      have := ih (n / 10) (by omega)
      simp; omega
theorem dec_ne (n : Nat) : dec n ≠ [] := by
  by_cases h : n < 10
  · rw [dec_small h]; simp
  · rw [dec_more h]; simp
theorem ten_ext (k : Nat) (h : k < 10) : (ByteArray.mk #[48, 49, 50, 51, 52, 53, 54, 55, 56, 57]).extract k (k + 1) = bs [dg k] := by
  have : ∀ k : Fin 10, (ByteArray.mk #[48, 49, 50, 51, 52, 53, 54, 55, 56, 57]).extract k.1 (k.1 + 1) = bs [dg k.1] := by decide
  exact this ⟨k, h⟩
theorem dg_mod (n : Nat) : dg (n % 10) = dg n := by unfold dg; rw [Nat.mod_mod]
end Go.Proofs.YtnpeokgjfnobmaaDoor

/-
  The reference's digits in decimal (Digits).
-/
namespace Go.Proofs.YtnpeokgjfnobmaaDoor
set_option linter.unusedVariables false
set_option linter.unusedSimpArgs false
open Go.RowKit
set_option linter.unusedVariables false
namespace ZC
open Z
theorem Digits_c : ∀ (N : Nat) (n : Nat) (w : World), n ≤ N → n ≤ 1000000000000000000 → Calls Tryd.prog 63 #[.int .i64 n] w (fun e w' => e = .returned (.string (bs (dec n))) ∧ w = w') := by
  intro N
  induction N with
  | zero =>
    intro n w hn _
    obtain rfl : n = 0 := by omega
    have h1 := Lib.hid (show (ByteArray.mk #[48, 49, 50, 51, 52, 53, 54, 55, 56, 57]).extract 0 1 = bs [dg 0] from ten_ext 0 (by decide))
    have h2 := Lib.hid (dec_small (n := 0) (by decide))
    go_enter Tryd.func63, Tryd.ntmps63
    go_wp2
    go_ret
    exact ⟨by rw [h2.out, ← h1.out]; rfl, rfl⟩
  | succ N ih =>
    intro n w hn hb
    have hsl : ∀ w, (Instr.slice 9 (.string ⟨#[48, 49, 50, 51, 52, 53, 54, 55, 56, 57]⟩) (some (.int .i64 ((n : Int) % 10))) (some (.int .i64 ((n : Int) % 10 + 1))) none).run Tryd.prog w = .ok (.string (bs [dg n])) w := by
      intro w
      rw [run_slice_string (P := Tryd.prog) w 9 _ _ _ _ _ Tryd.underlying9 (by omega) (by omega) (by show _ ≤ ((10 : Nat) : Int); omega)]
      rw [show ((n : Int) % 10).toNat = n % 10 by omega, show ((n : Int) % 10 + 1).toNat = n % 10 + 1 by omega, ten_ext _ (by omega), dg_mod]
    by_cases h : n < 10
    · have HE := Lib.hid (dec_small h)
      go_enter Tryd.func63, Tryd.ntmps63
      go_wp2
      go_ret
      exact ⟨by rw [HE.out]; rfl, rfl⟩
    · have P := fun W => ih (n / 10) W (by omega) (by omega)
      rw [show ((n / 10 : Nat) : Int) = (n : Int) / 10 by omega] at P
      have P' := Lib.hid P
      have hadd : ∀ w, (Op.stringOp .add (bs (dec (n / 10))) (bs [dg n])).run Tryd.prog w = .ok (.string (bs (dec n))) w := by
        intro w
        rw [run_string_add_sum w _ _ (by rw [bs_size, bs_size]; have := dec_len (n / 10); simp; omega), bs_app, dec_more h]
      clear ih P
      go_enter Tryd.func63, Tryd.ntmps63
      go_wp2_with (first | (go_at_call 63; (with_reducible refine (P'.out _).mono ?_); rintro e w' ⟨rfl, rfl⟩))
      go_ret
      exact ⟨rfl, rfl⟩
end ZC
end Go.Proofs.YtnpeokgjfnobmaaDoor

/-
  The reference's whole number as a text in decimal (ZText).
-/
namespace Go.Proofs.YtnpeokgjfnobmaaDoor
set_option linter.unusedVariables false
set_option linter.unusedSimpArgs false
open Go.RowKit
set_option linter.unusedVariables false
def pad4 (r : Nat) : List UInt8 := [dg (r / 1000), dg (r / 100), dg (r / 10), dg r]
theorem dec_pad (m r : Nat) (hm : 0 < m) (hr : r < 10000) : dec (r + 10000 * m) = dec m ++ pad4 r := by
  rw [dec_more (by omega), dec_more (n := (r + 10000 * m) / 10) (by omega), dec_more (n := (r + 10000 * m) / 10 / 10) (by omega), dec_more (n := (r + 10000 * m) / 10 / 10 / 10) (by omega)]
  rw [show (r + 10000 * m) / 10 / 10 / 10 / 10 = m by omega]
  simp only [pad4, List.append_assoc, List.cons_append, List.nil_append]
  unfold dg
  rw [show (r + 10000 * m) / 10 / 10 / 10 % 10 = r / 1000 % 10 by omega, show (r + 10000 * m) / 10 / 10 % 10 = r / 100 % 10 by omega, show (r + 10000 * m) / 10 % 10 = r / 10 % 10 by omega, show (r + 10000 * m) % 10 = r % 10 by omega]
theorem pad_dec (r : Nat) (hr : r < 10000) : (dec r).length ≤ 4 ∧ pad4 r = List.replicate (4 - (dec r).length) 48 ++ dec r := by
  have d0 : dg 0 = 48 := by decide
  unfold pad4
  by_cases h1 : r < 10
  · rw [dec_small h1, show r / 1000 = 0 by omega, show r / 100 = 0 by omega, show r / 10 = 0 by omega, d0]; simp [List.replicate]
  · by_cases h2 : r < 100
    · rw [dec_more h1, dec_small (by omega), show r / 1000 = 0 by omega, show r / 100 = 0 by omega, d0]; simp [List.replicate]
    · by_cases h3 : r < 1000
      · rw [dec_more h1, dec_more (by omega), dec_small (by omega), show r / 1000 = 0 by omega, show r / 10 / 10 = r / 100 by omega, d0]; simp
      · rw [dec_more h1, dec_more (by omega), dec_more (by omega), dec_small (by omega), show r / 10 / 10 = r / 100 by omega, show r / 100 / 10 = r / 1000 by omega]; simp
/-- the text of the lower digits -/
def lowt : List Int → List UInt8
  | [] => []
  | d :: r => lowt r ++ pad4 d.toNat
theorem lowt_app (l : List Int) (d : Int) : lowt (l ++ [d]) = pad4 d.toNat ++ lowt l := by
  induction l with
  | nil => simp [lowt]
  | cons x r ih => simp [lowt, ih]
theorem lowt_len (l : List Int) : (lowt l).length = 4 * l.length := by
  induction l with
  | nil => rfl
  | cons d r ih => simp [lowt, ih, pad4]; omega
theorem dec_low (l : List Int) (h : Z.Dig l) (m : Int) (hm : 0 < m) : dec (Z.val l + 10000 ^ l.length * m).toNat = dec m.toNat ++ lowt l := by
  induction l with
  | nil => simp [Z.val, lowt]
  | cons d r ih =>
    have h1 := h d (by simp)
    have hr : Z.Dig r := fun x hx => h x (by simp [hx])
    have h2 := Z.val_nonneg hr
    have hp : (0 : Int) < 10000 ^ r.length := Int.pow_pos (by decide)
    have h3 := Int.mul_pos hp hm
    have e : (Z.val (d :: r) + 10000 ^ (d :: r).length * m).toNat = d.toNat + 10000 * (Z.val r + 10000 ^ r.length * m).toNat := by
      simp only [Z.val, List.length_cons, Int.pow_succ]
      rw [show (10000 : Int) ^ r.length * 10000 * m = 10000 * (10000 ^ r.length * m) by grind]
      omega
    rw [e, dec_pad _ _ (by omega) (by omega), ih hr, lowt, List.append_assoc]
def ztext (z : Int) : List UInt8 := if z < 0 then 45 :: dec z.natAbs else dec z.natAbs
namespace ZC
open Z
/-- the text so far: k digits done, of n -/
def txt (L : List Int) (n k : Nat) : List UInt8 := if k = n ∧ 0 < n then dec (L.getD (n - 1) 0).toNat ++ lowt (L.take (n - 1)) else lowt (L.take k)
theorem txt_len {L : List Int} {n k : Nat} (hd : Dig L) (hk : k ≤ n) : (txt L n k).length ≤ 4 * n + 10001 := by
  unfold txt
  split
  · have := dec_len (L.getD (n - 1) 0).toNat
    have b := getD_dig hd (n - 1)
    have := lowt_len (L.take (n - 1))
    simp at *; omega
  · have := lowt_len (L.take k)
    simp at *; omega
theorem txt_step {L : List Int} {n k : Nat} (hn : n = L.length) (hd : Dig L) (h : k + 1 < n) : pad4 (L.getD k 0).toNat ++ txt L n k = txt L n (k + 1) := by
  unfold txt
  rw [if_neg (by omega), if_neg (by omega), List.take_succ_eq_append_getElem (by omega), lowt_app, List.getD_eq_getElem?_getD, List.getElem?_eq_getElem (by omega)]
  simp
theorem txt_last {L : List Int} {n k : Nat} (h : k + 1 = n) : dec (L.getD k 0).toNat ++ txt L n k = txt L n (k + 1) := by
  unfold txt
  rw [if_neg (by omega), if_pos (by omega)]
  subst h
  simp
theorem txt_done {L : List Int} {n : Nat} (hn : n = L.length) (hd : Dig L) (hz : Nz L) (h0 : 0 < n) : txt L n n = dec (val L).toNat := by
  unfold txt
  rw [if_pos ⟨rfl, h0⟩]
  have h1 := val_split L (n - 1) (by omega)
  rw [List.drop_of_length_le (by omega)] at h1
  simp only [val, Int.mul_zero, Int.add_zero] at h1
  rw [h1]
  have hne : L ≠ [] := by rintro rfl; simp at hn; omega
  have hl := hz hne
  rw [List.getLast_eq_getElem] at hl
  have b := getD_dig hd (n - 1)
  have e : L.getD (n - 1) 0 = L[L.length - 1] := by
    subst hn
    rw [List.getD_eq_getElem?_getD, List.getElem?_eq_getElem (by omega)]; rfl
  have hlen : (L.take (n - 1)).length = n - 1 := by rw [List.length_take]; omega
  have := dec_low (L.take (n - 1)) (hd.take _) (L.getD (n - 1) 0) (by rw [e] at b ⊢; omega)
  rw [hlen] at this
  exact this.symm
theorem ZText_c (v : Value) (z : Int) (w : World) (hv : ZV w v z) (bz : z.natAbs < big 1000000) :
    Calls Tryd.prog 18 #[v] w fun e w' => e = .returned (.string (bs (ztext z))) ∧ Below w.heap.size w w' := by
  obtain ⟨b, A, n, c, rfl, hv⟩ := hv
  have ln := hv.len bz
  obtain ⟨hb, L, hn, hs, hd, hz, hval⟩ := hv
  have HS := Lib.hid (hs.alloc (.cells #[.bool b, .slice A n c] 34))
  have HD := Lib.hid hd
  have HN := Lib.hid hn
  have hfin : 0 < n → ztext z = if b then 45 :: txt L n n else txt L n n := by
    intro h0
    rw [txt_done hn hd hz h0, hval, hb]
    unfold ztext
    by_cases h : z < 0 <;> simp [h]
  have hfin0 : n = 0 → ztext z = [48] := by
    intro h0
    have : L = [] := List.eq_nil_of_length_eq_zero (by omega)
    subst this
    have : z = 0 := by simp [val] at hval; omega
    subst this
    simp [ztext, dec_small]; decide
  have hpos : 0 < n → txt L n n ≠ [] := by
    intro h0 h
    rw [txt_done hn hd hz h0] at h
    exact dec_ne _ h
  have HF := Lib.hid hfin
  have HF0 := Lib.hid hfin0
  have HP := Lib.hid hpos
  clear hs hd hn hfin hfin0 hz hval hb hpos bz
  have DC := Lib.hid Digits_c
  go_enter Tryd.func18, Tryd.ntmps18
  go_wp2
  go_loop [3, 10] (fun s i => ∃ k : Nat, k ≤ n ∧ i = .int .i64 k ∧ s = .string (bs (txt L n k))) (fun s i => n - (intOf i).toNat)
  case atStart => exact ⟨0, by omega, rfl, by unfold txt; split; omega; rfl⟩
  case round =>
    obtain ⟨k, hk, rfl, rfl⟩ := hrel
    by_cases hkn : k < n
    · obtain ⟨ad, c', e, hc', hb, hcell⟩ := HS.out.at_ k (by rw [← HN.out]; omega)
      injection e with e1 e2 e3
      subst e1
      clear e2 e3 hc' c'
      obtain ⟨d, ed⟩ : ∃ d, L.getD k 0 = d := ⟨_, rfl⟩
      have bd := getD_dig HD.out k
      rw [ed] at hcell bd
      obtain ⟨r, rfl⟩ : ∃ r : Nat, d = r := ⟨d.toNat, by omega⟩
      have ED := Lib.hid ed
      clear ed
      have D1 := Lib.hid (fun W => DC.out r r W (Nat.le_refl _) (by omega))
      have hp := pad_dec r (by omega)
      have hl4 := hp.1
      have hp2 := Lib.hid hp.2
      have hlen : (dec r).length ≠ 0 := by have := dec_ne r; intro h; exact this (List.eq_nil_of_length_eq_zero h)
      clear hp
      have hadd2 : ∀ w j, j + (dec r).length ≤ 4 → (j + (dec r).length = 4 ∧ k + 1 < n ∨ k + 1 = n ∧ j = 0) → (Op.stringOp .add (bs (List.replicate j 48 ++ dec r)) (bs (txt L n k))).run Tryd.prog w = .ok (.string (bs (txt L n (k + 1)))) w := by
        intro w j hj hor
        have hlen := txt_len (L := L) (n := n) (k := k) HD.out hk
        rw [run_string_add_sum w _ _ (by rw [bs_size, bs_size]; simp; omega), bs_app]
        rcases hor with ⟨hj, hk2⟩ | ⟨hk2, rfl⟩
        · rw [← txt_step HN.out HD.out hk2, ED.out, Int.toNat_natCast, hp2.out, show j = 4 - (dec r).length by omega]
        · rw [← txt_last hk2, ED.out]; simp
      have HA2 := Lib.hid hadd2
      clear hadd2 hp2
      go_wp2_with (first | (go_at_call 63; (with_reducible refine (D1.out _).mono ?_); rintro e w' ⟨rfl, rfl⟩))
      go_loop [6] (fun t => ∃ j, t = .string (bs (List.replicate j 48 ++ dec r)) ∧ j + (dec r).length ≤ 4 ∧ (k + 1 < n ∨ k + 1 = n ∧ j = 0)) (fun t => match t with | .string s => 4 - s.size | _ => 0)
      case atStart => exact ⟨0, by simp, by omega, by omega⟩
      case round =>
        obtain ⟨j, rfl, hj, hor⟩ := hrel
        have hsz : (bs (List.replicate j 48 ++ dec r)).size = j + (dec r).length := by rw [bs_size]; simp
        by_cases hgo : j + (dec r).length < 4 ∧ k + 1 < n
        · obtain ⟨hg1, hg2⟩ := hgo
          have hadd : ∀ w, (Op.stringOp .add (ByteArray.mk #[48]) (bs (List.replicate j 48 ++ dec r))).run Tryd.prog w = .ok (.string (bs (List.replicate (j + 1) 48 ++ dec r))) w := by
            intro w
            have e : (ByteArray.mk #[48]) = bs [48] := rfl
            rw [e, run_string_add_sum w _ _ (by rw [hsz, bs_size]; simp; omega), bs_app]
            rfl
          go_wp2
          go_round
          case rel => exact ⟨j + 1, rfl, by omega, by omega⟩
          case measure =>
            show 4 - (bs _).size < 4 - (bs _).size
            rw [bs_size, bs_size]; simp; omega
        · have hadd : ∀ w, (Op.stringOp .add (bs (List.replicate j 48 ++ dec r)) (bs (txt L n k))).run Tryd.prog w = .ok (.string (bs (txt L n (k + 1)))) w := fun w => HA2.out w j hj (by omega)
          by_cases hg1 : j + (dec r).length < 4
          · have hg2 : k + 1 = n := by omega
            go_wp2
            exact ⟨⟨k + 1, by omega, by simp, by rw [hg2]⟩, by simp only [intOf]; omega⟩
          · go_wp2
            exact ⟨⟨k + 1, by omega, by simp, rfl⟩, by simp only [intOf]; omega⟩
    · obtain rfl : n = k := by omega
      by_cases h0 : n = 0
      · subst h0
        have ht : bs (txt L 0 0) = ⟨#[]⟩ := by unfold txt; rw [if_neg (by omega)]; rfl
        rw [ht]
        have HF0' := HF0.out rfl
        have HF1 := Lib.hid HF0'
        clear HF0'
        go_wp2
        go_ret
        exact ⟨by rw [HF1.out]; rfl, below1 w _⟩
      · have hlen := txt_len (L := L) (n := n) (k := n) HD.out (Nat.le_refl _)
        have hne : (bs (txt L n n)).toList.isEmpty = false := by
          rw [bs_toList]
          have := HP.out (by omega)
          cases h : txt L n n
          · exact absurd h this
          · rfl
        have hadd : ∀ w, (Op.stringOp .add (ByteArray.mk #[45]) (bs (txt L n n))).run Tryd.prog w = .ok (.string (bs (45 :: txt L n n))) w := by
          intro w
          have e : (ByteArray.mk #[45]) = bs [45] := rfl
          rw [e, run_string_add_sum w _ _ (by rw [bs_size, bs_size]; simp; omega), bs_app]
          rfl
        have HF1 := Lib.hid (HF.out (by omega))
        cases b
        · go_wp2
          go_ret
          exact ⟨by rw [HF1.out]; rfl, below1 w _⟩
        · go_wp2
          go_ret
          exact ⟨by rw [HF1.out]; rfl, below1 w _⟩
end ZC
end Go.Proofs.YtnpeokgjfnobmaaDoor

/-
  The reference's whole numbers: the sign.
-/
namespace Go.Proofs.YtnpeokgjfnobmaaDoor
set_option linter.unusedVariables false
set_option linter.unusedSimpArgs false
open Go.RowKit
set_option linter.unusedVariables false
namespace ZC
open Z
theorem ZSign_c (va : Value) (a : Int) (w : World) (ha : ZV w va a) (bA : a.natAbs < big 1000000) :
    Calls Tryd.prog 25 #[va] w fun e w' => e = .returned (.int .i64 (cmpv a 0)) ∧ Below w.heap.size w w' := by
  obtain ⟨b, A, n, c, rfl, hv⟩ := ha
  have ZC := Lib.hid (ZCmp_c _ _ a 0 (w.alloc (.cells #[.bool b, .slice A n c] 34)) (hv.alloc _).v (ZL.nil _ none 0).v bA (big_pos _))
  go_enter Tryd.func25, Tryd.ntmps25
  go_wp2_with (first | (go_at_call 16; (with_reducible refine (ZC.out).mono ?_); rintro e w1 ⟨rfl, hb⟩))
  go_ret
  exact ⟨rfl, ((Below.refl _ _).alloc (Nat.le_refl _) _).trans (hb.mono (by simp))⟩
end ZC
end Go.Proofs.YtnpeokgjfnobmaaDoor

/-
  Plain mathematics: lists of limbs: one limb set, so many limbs, sums, differences, multiples limb by limb.
-/
namespace Go.Proofs.YtnpeokgjfnobmaaDoor.L
set_option linter.unusedVariables false
set_option linter.unusedSimpArgs false
open Z (Nz Tz cmpv)
theorem lv_set (L : List Int) (k : Nat) (z : Int) (h : k < L.length) : lv (L.set k z) = lv L + 4294967296 ^ k * (z - L.getD k 0) := by
  induction L generalizing k with
  | nil => simp at h
  | cons d r ih =>
    cases k with
    | zero => simp [lv]; omega
    | succ k =>
      simp only [List.set_cons_succ, lv, List.getD_cons_succ]
      rw [ih k (by simpa using h), Int.pow_succ]; grind
theorem lv_take_succ (L : List Int) (k : Nat) : lv (L.take (k + 1)) = lv (L.take k) + 4294967296 ^ k * L.getD k 0 := by
  induction L generalizing k with
  | nil => simp [lv]
  | cons d r ih =>
    cases k with
    | zero => simp [lv]
    | succ k =>
      simp only [List.take_succ_cons, lv, List.getD_cons_succ]
      rw [ih k, Int.pow_succ]; grind
theorem lv_rep (n : Nat) : lv (List.replicate n 0) = 0 := by
  induction n with
  | zero => rfl
  | succ n ih => simp [List.replicate_succ, lv, ih]
theorem Lim.set {L : List Int} (h : Lim L) (k : Nat) {z : Int} (h0 : 0 ≤ z) (h1 : z < 4294967296) : Lim (L.set k z) := by
  intro d hd
  rcases List.mem_or_eq_of_mem_set hd with hd | rfl
  · exact h d hd
  · exact ⟨h0, h1⟩
theorem Lim.at_ {L : List Int} (h : Lim L) (k : Nat) : 0 ≤ L.getD k 0 ∧ L.getD k 0 < 4294967296 := by
  rw [List.getD_eq_getElem?_getD]
  by_cases hk : k < L.length
  · rw [List.getElem?_eq_getElem hk]; exact h _ (List.getElem_mem hk)
  · rw [List.getElem?_eq_none (by omega)]; simp
theorem Lim.rep (n : Nat) : Lim (List.replicate n 0) := by
  intro d hd
  obtain rfl := List.eq_of_mem_replicate hd
  omega
theorem lv_zero {L : List Int} (h : ∀ d ∈ L, d = 0) : lv L = 0 := by
  induction L with
  | nil => rfl
  | cons d r ih => simp [lv, h d (by simp), ih fun x hx => h x (by simp [hx])]
theorem lv_tz {L : List Int} {k : Nat} (h : Tz L k) : lv (L.take k) = lv L := by
  have := lv_append (L.take k) (L.drop k)
  rw [List.take_append_drop, lv_zero h] at this
  omega
theorem lv_take_all {L : List Int} {k : Nat} (h : L.length ≤ k) : lv (L.take k) = lv L := by rw [List.take_of_length_le h]
theorem lv_drop {L : List Int} (k : Nat) (hk : k < L.length) : lv (L.drop k) = L.getD k 0 + 4294967296 * lv (L.drop (k + 1)) := by
  rw [List.drop_eq_getElem_cons hk]
  simp only [lv]
  rw [List.getD_eq_getElem?_getD, List.getElem?_eq_getElem hk]; rfl
theorem lv_split (L : List Int) (k : Nat) (hk : k < L.length) : lv L = lv (L.take k) + 4294967296 ^ k * (L.getD k 0 + 4294967296 * lv (L.drop (k + 1))) := by
  rw [lv_cut L k (by omega), lv_drop k hk]
theorem lv_at_lt {L M : List Int} {k : Nat} (hL : Lim L) (hM : Lim M) (hk : k < L.length) (hk' : k < M.length) (he : L.drop (k + 1) = M.drop (k + 1)) (h : L.getD k 0 < M.getD k 0) : lv L < lv M := by
  rw [lv_split L k hk, lv_split M k hk', he]
  have h1 := lv_lt (hL.take k)
  rw [List.length_take, Nat.min_eq_left (by omega)] at h1
  have h2 := lv_nonneg (hM.take k)
  have h3 : (4294967296 : Int) ^ k * (L.getD k 0 + 1) ≤ 4294967296 ^ k * M.getD k 0 := Int.mul_le_mul_of_nonneg_left (by omega) (Int.le_of_lt (pow_pos k))
  grind
theorem drop_same {L M : List Int} {k : Nat} (hk : k < L.length) (hk' : k < M.length) (he : L.drop (k + 1) = M.drop (k + 1)) (h : L.getD k 0 = M.getD k 0) : L.drop k = M.drop k := Z.drop_same hk hk' he h
theorem getD_set {L : List Int} {k : Nat} (h : k < L.length) (j : Nat) (z : Int) : (L.set k z).getD j 0 = if j = k then z else L.getD j 0 := Z.getD_set h j z
theorem lim_end {L : List Int} {k : Nat} (hk : k ≤ L.length) (h : k = 0 ∨ L.getD (k - 1) 0 ≠ 0) : Nz (L.take k) := Z.Nz_take hk h
/-- adding under way: so many limbs of Y have been added to X, which reads M now; c is carried -/
structure AddI (X Y : List Int) (i : Nat) (M : List Int) (c : Int) : Prop where
  len : M.length = X.length
  lim : Lim M
  c0 : 0 ≤ c
  c1 : c ≤ 1
  sum : lv M + 4294967296 ^ i * c = lv X + lv (Y.take i)
theorem AddI.start {X : List Int} (Y : List Int) (h : Lim X) : AddI X Y 0 X 0 := ⟨rfl, h, by omega, by omega, by simp [lv]⟩
theorem AddI.step {X Y M : List Int} {i : Nat} {c z c' : Int} (h : AddI X Y i M c) (hi : i < X.length) (z0 : 0 ≤ z) (z1 : z < 4294967296) (g0 : 0 ≤ c') (g1 : c' ≤ 1)
    (e : z + 4294967296 * c' = M.getD i 0 + Y.getD i 0 + c) : AddI X Y (i + 1) (M.set i z) c' := by
  refine ⟨by simp [h.len], h.lim.set i z0 z1, g0, g1, ?_⟩
  rw [lv_set M i z (by rw [h.len]; exact hi), lv_take_succ, Int.pow_succ]
  have := h.sum
  have e2 : 4294967296 ^ i * (z + 4294967296 * c') = 4294967296 ^ i * (M.getD i 0 + Y.getD i 0 + c) := by rw [e]
  grind
theorem AddI.done {X Y M : List Int} {i : Nat} {c : Int} (h : AddI X Y i M c) (hy : Y.length ≤ i) (hx : i = X.length ∨ c = 0) : lv M + 4294967296 ^ X.length * c = lv X + lv Y := by
  have := h.sum
  rw [lv_take_all hy] at this
  rcases hx with rfl | rfl
  · exact this
  · simpa using this
/-- taking away under way -/
structure SubI (X Y : List Int) (i : Nat) (M : List Int) (c : Int) : Prop where
  len : M.length = X.length
  lim : Lim M
  c0 : 0 ≤ c
  c1 : c ≤ 1
  sum : lv M - 4294967296 ^ i * c = lv X - lv (Y.take i)
theorem SubI.start {X : List Int} (Y : List Int) (h : Lim X) : SubI X Y 0 X 0 := ⟨rfl, h, by omega, by omega, by simp [lv]⟩
theorem SubI.step {X Y M : List Int} {i : Nat} {c z c' : Int} (h : SubI X Y i M c) (hi : i < X.length) (z0 : 0 ≤ z) (z1 : z < 4294967296) (g0 : 0 ≤ c') (g1 : c' ≤ 1)
    (e : z - 4294967296 * c' = M.getD i 0 - Y.getD i 0 - c) : SubI X Y (i + 1) (M.set i z) c' := by
  refine ⟨by simp [h.len], h.lim.set i z0 z1, g0, g1, ?_⟩
  rw [lv_set M i z (by rw [h.len]; exact hi), lv_take_succ, Int.pow_succ]
  have := h.sum
  have e2 : 4294967296 ^ i * (z - 4294967296 * c') = 4294967296 ^ i * (M.getD i 0 - Y.getD i 0 - c) := by rw [e]
  grind
theorem SubI.done {X Y M : List Int} {i : Nat} {c : Int} (h : SubI X Y i M c) (_hX : Lim X) (hy : Y.length ≤ i) (hx : i = X.length ∨ c = 0) (hle : lv Y ≤ lv X) : lv M = lv X - lv Y := by
  have hs := h.sum
  rw [lv_take_all hy] at hs
  rcases hx with rfl | rfl
  · have := lv_lt h.lim
    rw [h.len] at this
    have c0 := h.c0
    have c1 := h.c1
    rcases (by omega : c = 0 ∨ c = 1) with rfl | rfl
    · simpa using hs
    · rw [Int.mul_one] at hs; omega
  · simpa using hs
/-- a multiple added, or taken away, under way -/
structure TimI (s : Int) (X Y : List Int) (n : Int) (i : Nat) (M : List Int) (c : Int) : Prop where
  len : M.length = X.length
  lim : Lim M
  c0 : 0 ≤ c
  c1 : c ≤ 4294967296
  rest : ∀ j, i ≤ j → M.getD j 0 = X.getD j 0
  sum : lv M + s * (4294967296 ^ i * c) = lv X + s * (n * lv (Y.take i))
theorem TimI.start {X : List Int} (s : Int) (Y : List Int) (n : Int) (h : Lim X) : TimI s X Y n 0 X 0 := ⟨rfl, h, by omega, by omega, fun _ _ => rfl, by simp [lv]⟩
theorem TimI.step {s n : Int} {X Y M : List Int} {i : Nat} {c z c' : Int} (h : TimI s X Y n i M c) (hi : i < X.length) (z0 : 0 ≤ z) (z1 : z < 4294967296) (g0 : 0 ≤ c') (g1 : c' ≤ 4294967296)
    (e : z + s * (4294967296 * c') = M.getD i 0 + s * (Y.getD i 0 * n) + s * c) : TimI s X Y n (i + 1) (M.set i z) c' := by
  refine ⟨by simp [h.len], h.lim.set i z0 z1, g0, g1, fun j hj => ?_, ?_⟩
  · rw [getD_set (by rw [h.len]; exact hi), if_neg (by omega)]; exact h.rest j (by omega)
  · rw [lv_set M i z (by rw [h.len]; exact hi), lv_take_succ, Int.pow_succ]
    have := h.sum
    have e2 : 4294967296 ^ i * (z + s * (4294967296 * c')) = 4294967296 ^ i * (M.getD i 0 + s * (Y.getD i 0 * n) + s * c) := by rw [e]
    grind
theorem TimI.done {s n : Int} {X Y M : List Int} {i : Nat} {c : Int} (h : TimI s X Y n i M c) (hy : Y.length ≤ i) : lv M + s * (4294967296 ^ i * c) = lv X + s * (n * lv Y) := by
  have := h.sum
  rwa [lv_take_all hy] at this
end Go.Proofs.YtnpeokgjfnobmaaDoor.L

/-
  Words for memory: a stretch of a block of the call's own that holds limbs, written in place; a slice of limbs that lies elsewhere; a result in normal form.
-/
namespace Go.Proofs.YtnpeokgjfnobmaaDoor
set_option linter.unusedVariables false
set_option linter.unusedSimpArgs false
open Go.RowKit
set_option linter.unusedVariables false
namespace NC
open L
open Z (Nz Tz cmpv)
def RetQ (w : World) (v : Value) (e : Ending) (w' : World) : Prop := e = .returned v ∧ ∃ n, w' = w.drewN n
/-- the limbs' cells from number o on hold M -/
def Wn (cs : Array Value) (o : Nat) (M : List Int) : Prop := ∀ j, j < M.length → cs[o + j]? = some (.int .u32 (M.getD j 0))
/-- block g, the call's own, was written from o on, n limbs, which read M; nothing else was -/
structure Ed (w w' : World) (g : Nat) (cs : Array Value) (o n : Nat) (M : List Int) : Prop where
  len : M.length = n
  grown : w.grownBy w' (some g)
  blk : ∃ cs', Blk w' g 56 cs' ∧ cs'.size = cs.size ∧ Wn cs' o M ∧ ∀ i, (i < o ∨ o + n ≤ i) → cs'[i]? = cs[i]?
theorem Ed.start {w : World} {g : Nat} {cs : Array Value} {o n : Nat} {M : List Int} (hb : Blk w g 56 cs) (hM : Wn cs o M) (hn : M.length = n) : Ed w w g cs o n M :=
  ⟨hn, World.grownBy.refl _ _, cs, hb, rfl, hM, fun _ _ => rfl⟩
section
variable {w w' : World} {g : Nat} {cs : Array Value} {o n : Nat} {M : List Int}
theorem Ed.cell (h : Ed w w' g cs o n M) (j : Nat) (hj : j < n) : w'.cell? ⟨g, o + j, none⟩ = some (.int .u32 (M.getD j 0)) := by
  obtain ⟨cs', hb, _, hM, _⟩ := h.blk
  exact hb.at_ _ (hM j (by rw [h.len]; exact hj))
theorem Ed.frozen (h : Ed w w' g cs o n M) (j : Nat) : w'.frozen? ⟨g, j, none⟩ = false := by
  obtain ⟨cs', hb, _, hM, _⟩ := h.blk
  exact hb.frozen _
theorem grownBy_set {w w' : World} {g : Nat} (h : w.grownBy w' (some g)) (j : Nat) (u : Value) : w.grownBy (w'.setCell ⟨g, j, none⟩ u) (some g) :=
  ⟨h.os, h.tape, h.output, by simpa [World.setCell] using h.size, fun k hk hne => (Below.heap_setCell _ _ _ _ (by rintro rfl; exact hne rfl)).trans (h.block k hk hne)⟩
theorem Ed.set_ (h : Ed w w' g cs o n M) (j : Nat) (hj : j < n) (z : Int) : Ed w (w'.setCell ⟨g, o + j, none⟩ (.int .u32 z)) g cs o n (M.set j z) := by
  obtain ⟨cs', hb, hs, hM, hf⟩ := h.blk
  refine ⟨by simp [h.len], grownBy_set h.grown _ _, _, hb.set_ (o + j) _, by simp [hs], fun i hi => ?_, fun i hi => ?_⟩
  · rw [List.length_set] at hi
    rw [Array.getElem?_setIfInBounds, getD_set (by rw [h.len]; exact hj)]
    have hz := hM j (by rw [h.len]; exact hj)
    have hin : o + j < cs'.size := by
      rcases Nat.lt_or_ge (o + j) cs'.size with h | h
      · exact h
      · rw [Array.getElem?_eq_none h] at hz; cases hz
    by_cases e : i = j
    · subst e; simp [hin]
    · rw [if_neg (by omega), if_neg e]; exact hM i hi
  · rw [Array.getElem?_setIfInBounds, if_neg (by omega)]; exact hf i hi
theorem Ed.drew (h : Ed w w' g cs o n M) : Ed w w'.drew g cs o n M := by
  obtain ⟨a, b, cs', hb, c⟩ := h
  exact ⟨a, ⟨b.os, b.tape, b.output, b.size, b.block⟩, cs', hb, c⟩
theorem Ed.below {B : Nat} {w0 : World} (h : Ed w w' g cs o n M) (hb : Below B w0 w) (hB : B ≤ g) (hB' : B ≤ w.heap.size) : Below B w0 w' :=
  hb.grown h.grown hB' fun k hk => by injection hk with hk; omega
theorem Ed.size (h : Ed w w' g cs o n M) : w.heap.size ≤ w'.heap.size := h.grown.size
end
/-- the slice 's' holds the integers 'L'; it lies in another block than g -/
def SlA (k : IntKind) (w : World) (s : Value) (L : List Int) (g : Nat) : Prop :=
  ∃ A c, s = .slice A L.length c ∧ L.length ≤ c ∧ (L = [] ∨ ∃ ad, A = some ad ∧ ad.block < w.heap.size ∧ ad.block ≠ g ∧ ∀ (j : Nat) (h : j < L.length), w.cell? (ad.add j) = some (.int k L[j]))
theorem SlA.sl {k : IntKind} {w : World} {s : Value} {L : List Int} {g : Nat} (h : SlA k w s L g) : Sl k w s L := by
  obtain ⟨A, c, e, hc, h⟩ := h
  exact ⟨A, c, e, hc, h.imp id fun ⟨ad, e, h1, _, h2⟩ => ⟨ad, e, h1, h2⟩⟩
theorem SlA.grown {k : IntKind} {w w' : World} {s : Value} {L : List Int} {g : Nat} (h : SlA k w s L g) (hg : w.grownBy w' (some g)) : SlA k w' s L g := by
  obtain ⟨A, c, e, hc, h⟩ := h
  refine ⟨A, c, e, hc, h.imp id fun ⟨ad, e, h1, h2, h3⟩ => ⟨ad, e, Nat.lt_of_lt_of_le h1 hg.size, h2, fun j hj => ?_⟩⟩
  exact hg.cell (h3 j hj) (by rw [block_of_add]; intro e; injection e with e; exact h2 e)
theorem SlA.of {k : IntKind} {w : World} {s : Value} {L : List Int} {g : Nat} (h : Sl k w s L) (hg : ∀ A n c, s = .slice (some A) n c → 0 < n → A.block ≠ g) : SlA k w s L g := by
  obtain ⟨A, c, e, hc, h⟩ := h
  refine ⟨A, c, e, hc, ?_⟩
  by_cases hL : L = []
  · exact .inl hL
  · rcases h with h | ⟨ad, rfl, h1, h2⟩
    · exact absurd h hL
    · exact .inr ⟨ad, rfl, h1, hg _ _ _ e (List.length_pos_iff.2 hL), h2⟩
/-- a slice that lay there before the world grew from B on, with the block g one of the new ones -/
theorem SlA.old {k : IntKind} {w w' : World} {s : Value} {L : List Int} {g : Nat} (h : Sl k w s L) (hb : Below w.heap.size w w') (hg : w.heap.size ≤ g) : SlA k w' s L g := by
  obtain ⟨A, c, e, hc, h⟩ := h
  refine ⟨A, c, e, hc, h.imp id fun ⟨ad, e, h1, h2⟩ => ⟨ad, e, Nat.lt_of_lt_of_le h1 hb.size, by omega, fun j hj => (hb.cell (by rw [block_of_add]; exact h1)).trans (h2 j hj)⟩⟩
theorem SlA.at_ {k : IntKind} {w : World} {s : Value} {L : List Int} {g : Nat} (h : SlA k w s L g) (j : Nat) (hj : j < L.length) : ∃ ad c, s = .slice (some ad) L.length c ∧ L.length ≤ c ∧ w.cell? (ad.add j) = some (.int k (L.getD j 0)) := by
  obtain ⟨ad, c, h1, h2, _, h3⟩ := h.sl.at_ j hj
  exact ⟨ad, c, h1, h2, h3⟩
theorem _root_.Go.Proofs.YtnpeokgjfnobmaaDoor.Sl.form {k : IntKind} {w : World} {s : Value} {L : List Int} (h : Sl k w s L) : ∃ A c, s = .slice A L.length c ∧ L.length ≤ c := by
  obtain ⟨A, c, e, hc, _⟩ := h
  exact ⟨A, c, e, hc⟩
theorem SlA.drew {k : IntKind} {w : World} {s : Value} {L : List Int} {g : Nat} (h : SlA k w s L g) : SlA k w.drew s L g := h
theorem Ed.undrew {w w' : World} {g : Nat} {cs : Array Value} {o n : Nat} {M : List Int} (h : Ed w.drew w' g cs o n M) : Ed w w' g cs o n M :=
  ⟨h.len, ⟨h.grown.os, h.grown.tape, h.grown.output, h.grown.size, h.grown.block⟩, h.blk⟩
theorem grownBy_trans {w w1 w2 : World} {g : Nat} (h1 : w.grownBy w1 (some g)) (h2 : w1.grownBy w2 (some g)) : w.grownBy w2 (some g) :=
  ⟨h2.os.trans h1.os, h2.tape.trans h1.tape, h2.output.trans h1.output, Nat.le_trans h1.size h2.size, fun k hk hne => (h2.block k (Nat.lt_of_lt_of_le hk h1.size) hne).trans (h1.block k hk hne)⟩
/-- written once more -/
theorem Ed.again {w w' : World} {g : Nat} {cs : Array Value} {o n : Nat} {M : List Int} (h : Ed w w' g cs o n M) : ∃ cs', Blk w' g 56 cs' ∧ Wn cs' o M ∧ ∀ w2 M', Ed w' w2 g cs' o n M' → Ed w w2 g cs o n M' := by
  obtain ⟨cs', hb, hs, hM, hf⟩ := h.blk
  refine ⟨cs', hb, hM, fun w2 M' h2 => ?_⟩
  obtain ⟨cs2, hb2, hs2, hM2, hf2⟩ := h2.blk
  exact ⟨h2.len, grownBy_trans h.grown h2.grown, cs2, hb2, hs2.trans hs, hM2, fun i hi => (hf2 i hi).trans (hf i hi)⟩
/-- a slice of limbs in normal form that tells 'z' -/
def NV (w : World) (v : Value) (z : Int) : Prop := ∃ L, Sl .u32 w v L ∧ Lim L ∧ Nz L ∧ lv L = z
theorem NV.below {w w' : World} {v : Value} {z : Int} (h : NV w v z) (hb : Below w.heap.size w w') : NV w' v z := by
  obtain ⟨L, h1, h2⟩ := h
  exact ⟨L, h1.below hb, h2⟩
/-- the cell of a fresh zeroed block -/
theorem Wn.made (n : Nat) : Wn (madeCells #[.int .u32 0] n) 0 (List.replicate n 0) := by
  intro j hj
  rw [List.length_replicate] at hj
  rw [made_row, List.getElem?_toArray, List.getElem?_map, Nat.zero_add, List.getElem?_replicate, if_pos hj, Z.getD_rep]
  rfl
end NC
end Go.Proofs.YtnpeokgjfnobmaaDoor

/-
  Package nat: Check, checkBoth, trim, compare.
-/
namespace Go.Proofs.YtnpeokgjfnobmaaDoor
set_option linter.unusedVariables false
set_option linter.unusedSimpArgs false
open Go.RowKit
set_option linter.unusedVariables false
namespace NC
open L
open Z (Nz Tz cmpv)
/-- what Check tells of a list: 2 too long, 3 a nought at its end, 0 right -/
def chk (l : List Int) : Int := if 400 < l.length then 2 else if l.getLast? = some 0 then 3 else 0
theorem Check_c (v : Value) (l : List Int) (w : World) (hs : Sl .u32 w v l) (hl : l.length ≤ 9223372036854775807) :
    Calls Tryd.prog 51 #[v] w (fun e w' => e = .returned (.int .i64 (chk l)) ∧ w = w') := by
  obtain ⟨A, c, rfl, hc, _⟩ := hs.open_
  obtain ⟨m, em⟩ : ∃ m, m = l.length := ⟨_, rfl⟩
  by_cases h4 : 400 < l.length
  · have hr : chk l = 2 := by unfold chk; rw [if_pos h4]
    rw [← em] at h4 hl hc ⊢
    have HR := Lib.hid hr
    clear hr em hs
    go_enter Tryd.func51, Tryd.ntmps51
    go_wp2
    go_ret
    exact ⟨ret_int HR.out.symm, rfl⟩
  · by_cases hne : l = []
    · have hr : chk l = 0 := by subst hne; rfl
      have m0 : m = 0 := by rw [em, hne]; rfl
      rw [← em] at h4 hl hc ⊢
      subst m0
      have HR := Lib.hid hr
      clear hr em hs hne
      go_enter Tryd.func51, Tryd.ntmps51
      go_wp2
      go_ret
      exact ⟨ret_int HR.out.symm, rfl⟩
    · obtain ⟨ad, c', e', _, hb', hcell⟩ := hs.at_ (l.length - 1) (by have := List.length_pos_iff.2 hne; omega)
      injection e' with e1 e2 e3
      subst e1
      subst e3
      clear e2
      have hlast : l.getLast? = some (l.getD (l.length - 1) 0) := by
        rw [List.getLast?_eq_getElem?, List.getD_eq_getElem?_getD, List.getElem?_eq_getElem (by have := List.length_pos_iff.2 hne; omega)]; rfl
      obtain ⟨d, hd⟩ : ∃ d, d = l.getD (l.length - 1) 0 := ⟨_, rfl⟩
      rw [← hd] at hcell hlast
      have h1 : 1 ≤ l.length := List.length_pos_iff.2 hne
      rw [← em] at h4 hl hc hcell h1 ⊢
      by_cases hd0 : d = 0
      · have hr : chk l = 3 := by unfold chk; rw [if_neg (by omega), if_pos (by rw [hlast, hd0])]
        have e1 : (d == 0) = true := by simp [hd0]
        have HR := Lib.hid hr
        clear hr em hs hne hd hd0 hlast hb'
        go_enter Tryd.func51, Tryd.ntmps51
        go_wp2
        go_ret
        exact ⟨ret_int HR.out.symm, rfl⟩
      · have hr : chk l = 0 := by unfold chk; rw [if_neg (by omega), if_neg (by rw [hlast]; simpa using hd0)]
        have e1 : (d == 0) = false := by simp [hd0]
        have HR := Lib.hid hr
        clear hr em hs hne hd hd0 hlast hb'
        go_enter Tryd.func51, Tryd.ntmps51
        go_wp2
        go_ret
        exact ⟨ret_int HR.out.symm, rfl⟩
/-- what checkBoth tells -/
def chk2 (l m : List Int) : Int := if chk l ≠ 0 then chk l else chk m
theorem checkBoth_c (u v : Value) (l m : List Int) (w : World) (hs : Sl .u32 w u l) (ht : Sl .u32 w v m) (hl : l.length ≤ 9223372036854775807) (hm : m.length ≤ 9223372036854775807) :
    Calls Tryd.prog 100 #[u, v] w (fun e w' => e = .returned (.int .i64 (chk2 l m)) ∧ w = w') := by
  have C1 := Lib.hid (Check_c u l w hs hl)
  have C2 := Lib.hid (Check_c v m w ht hm)
  obtain ⟨r, hr⟩ : ∃ r, r = chk l := ⟨_, rfl⟩
  obtain ⟨r2, hr2⟩ : ∃ r, r = chk2 l m := ⟨_, rfl⟩
  obtain ⟨r3, hr3⟩ : ∃ r, r = chk m := ⟨_, rfl⟩
  rw [← hr] at C1
  rw [← hr3] at C2
  rw [← hr2]
  unfold chk2 at hr2
  rw [← hr, ← hr3] at hr2
  clear hs ht hl hm hr hr3
  by_cases h : r = 0
  · have e1 : (r != 0) = false := by simp [h]
    rw [if_neg (by simpa using h)] at hr2
    have H2 := Lib.hid hr2
    clear hr2 h
    go_enter Tryd.func100, Tryd.ntmps100
    go_wp2_with (first | (go_at_call 51; (with_reducible refine (C1.out).mono ?_); rintro e w' ⟨rfl, rfl⟩) | (go_at_call 51; (with_reducible refine (C2.out).mono ?_); rintro e w' ⟨rfl, rfl⟩))
    go_ret
    exact ⟨ret_int H2.out.symm, rfl⟩
  · have e1 : (r != 0) = true := by simp [h]
    rw [if_pos h] at hr2
    have H2 := Lib.hid hr2
    clear hr2 h
    go_enter Tryd.func100, Tryd.ntmps100
    go_wp2_with (first | (go_at_call 51; (with_reducible refine (C1.out).mono ?_); rintro e w' ⟨rfl, rfl⟩))
    go_ret
    exact ⟨ret_int H2.out.symm, rfl⟩
/-- trim: the same slice, maybe shorter, in normal form -/
def RetTr (w : World) (A : Option Addr) (c : Nat) (L : List Int) (e : Ending) (w' : World) : Prop :=
  ∃ m, e = .returned (.slice A m c) ∧ m ≤ L.length ∧ Nz (L.take m) ∧ lv (L.take m) = lv L ∧ w = w'
theorem trim_c (A : Option Addr) (n c : Nat) (L : List Int) (w : World) (hs : Sl .u32 w (.slice A n c) L) (hn : L.length ≤ 1000000000) :
    Calls Tryd.prog 58 #[.slice A n c] w (RetTr w A c L) := by
  obtain ⟨en, hc⟩ := hs.len_
  rw [← en] at hn hc
  have EN := Lib.hid en
  have HS := Lib.hid hs
  clear en hs
  go_enter Tryd.func58, Tryd.ntmps58
  go_wp2
  go_loop [0] (fun v => ∃ k : Nat, k ≤ n ∧ v = .slice A k c ∧ Hid (Tz L k)) (fun v => match v with | .slice _ k _ => k | _ => 0)
  case atStart => exact ⟨n, Nat.le_refl _, rfl, by rw [EN.out]; exact Z.Tz_all L⟩
  case round =>
    obtain ⟨k, hk, rfl, htz⟩ := hrel
    by_cases hk0 : 0 < k
    · obtain ⟨ad, c', e, hc', hb, hcell⟩ := HS.out.at_ (k - 1) (by rw [← EN.out]; omega)
      injection e with e1 e2 e3
      subst e1
      clear e2 e3 hc' c' hb
      obtain ⟨z, hz⟩ : ∃ z, L.getD (k - 1) 0 = z := ⟨_, rfl⟩
      rw [hz] at hcell
      have HZ := Lib.hid hz
      clear hz
      by_cases h0 : z = 0
      · have h1 : (z == 0) = true := by simp [h0]
        have HT2 := Lib.hid (Z.Tz_pred L k hk0 (by rw [← EN.out]; exact hk) (by rw [HZ.out]; exact h0) htz.out)
        clear h0
        go_wp2
        go_round
        case rel => exact ⟨k - 1, by omega, by simp, HT2.out⟩
        case measure => simp; omega
      · have h1 : (z == 0) = false := by simp [h0]
        have HNZ := Lib.hid h0
        clear h0
        go_wp2
        go_ret
        refine ⟨k, rfl, by rw [← EN.out]; exact hk, lim_end (by rw [← EN.out]; exact hk) (.inr (by rw [HZ.out]; exact HNZ.out)), lv_tz htz.out, rfl⟩
    · obtain rfl : k = 0 := by omega
      go_wp2
      go_ret
      exact ⟨0, rfl, by omega, lim_end (by omega) (.inl rfl), lv_tz htz.out, rfl⟩
end NC
end Go.Proofs.YtnpeokgjfnobmaaDoor

/-
  Package nat: compare; cmp.Compare of ints and of limbs.
-/
namespace Go.Proofs.YtnpeokgjfnobmaaDoor
set_option linter.unusedVariables false
set_option linter.unusedSimpArgs false
open Go.RowKit
set_option linter.unusedVariables false
namespace NC
open L
open Z (Nz Tz cmpv)
theorem cmpInt_c (x y : Int) (w : World) : Calls Tryd.prog 94 #[.int .i64 x, .int .i64 y] w (fun e w' => e = .returned (.int .i64 (cmpv x y)) ∧ w = w') := by
  have e0 : (x != x) = false := by simp
  have e1 : (y != y) = false := by simp
  rcases Int.lt_trichotomy x y with h | h | h
  · have hr := Lib.hid (Z.cmpv_lt h)
    have e2 : decide (x < y) = true := by simp [h]
    clear h
    go_enter Tryd.func94, Tryd.ntmps94
    go_wp2
    go_ret
    exact ⟨ret_int hr.out.symm, rfl⟩
  · have hr := Lib.hid (Z.cmpv_eq h)
    have e2 : decide (x < y) = false := by simp [h]
    have e3 : decide (y < x) = false := by simp [h]
    clear h
    go_enter Tryd.func94, Tryd.ntmps94
    go_wp2
    go_ret
    exact ⟨ret_int hr.out.symm, rfl⟩
  · have hr := Lib.hid (Z.cmpv_gt h)
    have e2 : decide (x < y) = false := by simp; omega
    have e3 : decide (y < x) = true := by simp [h]
    clear h
    go_enter Tryd.func94, Tryd.ntmps94
    go_wp2
    go_ret
    exact ⟨ret_int hr.out.symm, rfl⟩
theorem cmpU_c (x y : Int) (w : World) : Calls Tryd.prog 102 #[.int .u32 x, .int .u32 y] w (fun e w' => e = .returned (.int .i64 (cmpv x y)) ∧ w = w') := by
  have e0 : (x != x) = false := by simp
  have e1 : (y != y) = false := by simp
  rcases Int.lt_trichotomy x y with h | h | h
  · have hr := Lib.hid (Z.cmpv_lt h)
    have e2 : decide (x < y) = true := by simp [h]
    clear h
    go_enter Tryd.func102, Tryd.ntmps102
    go_wp2
    go_ret
    exact ⟨ret_int hr.out.symm, rfl⟩
  · have hr := Lib.hid (Z.cmpv_eq h)
    have e2 : decide (x < y) = false := by simp [h]
    have e3 : decide (y < x) = false := by simp [h]
    clear h
    go_enter Tryd.func102, Tryd.ntmps102
    go_wp2
    go_ret
    exact ⟨ret_int hr.out.symm, rfl⟩
  · have hr := Lib.hid (Z.cmpv_gt h)
    have e2 : decide (x < y) = false := by simp; omega
    have e3 : decide (y < x) = true := by simp [h]
    clear h
    go_enter Tryd.func102, Tryd.ntmps102
    go_wp2
    go_ret
    exact ⟨ret_int hr.out.symm, rfl⟩
theorem compare_c (s t : Value) (L M : List Int) (w : World) (hs : Sl .u32 w s L) (ht : Sl .u32 w t M) (hL : Lim L) (hM : Lim M) (nL : Nz L) (nM : Nz M) (bL : L.length ≤ 1000000000) (bM : M.length ≤ 1000000000) :
    Calls Tryd.prog 85 #[s, t] w (RetQ w (.int .i64 (cmpv (lv L) (lv M)))) := by
  obtain ⟨n, hn⟩ : ∃ n, n = L.length := ⟨_, rfl⟩
  obtain ⟨m, hm⟩ : ∃ m, m = M.length := ⟨_, rfl⟩
  obtain ⟨A, c, rfl, hc, hcL⟩ := hs.open_
  obtain ⟨B, d, rfl, hd, hcM⟩ := ht.open_
  rw [← hn] at bL hc hcL ⊢
  rw [← hm] at bM hd hcM ⊢
  obtain ⟨r, hr⟩ : ∃ r, r = cmpv (lv L) (lv M) := ⟨_, rfl⟩
  rw [← hr]
  have HR := Lib.hid hr
  have HN := Lib.hid hn
  have HM := Lib.hid hm
  have CL := Lib.hid hcL
  have CM := Lib.hid hcM
  have DL := Lib.hid hL
  have DM := Lib.hid hM
  have NL := Lib.hid nL
  have NM := Lib.hid nM
  clear hr hn hm hcL hcM hL hM nL nM hs ht
  by_cases h0 : n = m
  · subst h0
    go_enter Tryd.func85, Tryd.ntmps85
    go_wp2
    go_loopw [5] (fun i wr => ∃ k : Nat, k ≤ n ∧ i = .int .i64 ((k : Int) - 1) ∧ (∃ q, wr = w.drewN q) ∧ Hid (L.drop k = M.drop k)) (fun i _ => (intOf i + 1).toNat)
    case atStart => exact ⟨n, Nat.le_refl _, rfl, ⟨0, rfl⟩, by unfold Hid; rw [HN.out, List.drop_length, ← HN.out, HM.out, List.drop_length]⟩
    case round =>
      obtain ⟨k, hk, rfl, ⟨q, rfl⟩, hd⟩ := hrel
      have K1 : (k : Int) ≤ 1000000000 := by omega
      by_cases hk0 : 0 < k
      · obtain ⟨ad, rfl, hb1, hx⟩ := CL.out (k - 1) (by omega)
        obtain ⟨ad2, rfl, hb2, hy⟩ := CM.out (k - 1) (by omega)
        obtain ⟨x, hX⟩ : ∃ x, L.getD (k - 1) 0 = x := ⟨_, rfl⟩
        obtain ⟨y, hY⟩ : ∃ y, M.getD (k - 1) 0 = y := ⟨_, rfl⟩
        rw [hX] at hx
        rw [hY] at hy
        have HX := Lib.hid hX
        have HY := Lib.hid hY
        have i0 : (0 : Int) ≤ (k : Int) - 1 := by omega
        have i1 : (k : Int) - 1 < (n : Int) := by omega
        have i3 : ((k : Int) - 1).toNat = k - 1 := by omega
        have kk : k - 1 + 1 = k := by omega
        clear hX hY hb1 hb2
        by_cases hxy : x = y
        · have e1 : (x != y) = false := by simp [hxy]
          have HD2 := Lib.hid (drop_same (k := k - 1) (by rw [← HN.out]; omega) (by rw [← HM.out]; omega) (by rw [kk]; exact hd.out) (by rw [HX.out, HY.out]; exact hxy))
          clear hxy kk
          go_wp2
          go_region
          go_wp2
          exact ⟨⟨k - 1, by omega, by simp; omega, ⟨q + 1, rfl⟩, HD2.out⟩, by simp only [intOf]; omega⟩
        · have e1 : (x != y) = true := by simp [hxy]
          have CU : Hid (∀ w', Calls Tryd.prog 102 #[.int .u32 x, .int .u32 y] w' (fun e w'' => e = .returned (.int .i64 (cmpv x y)) ∧ w'' = w')) := Lib.hid fun w' => (cmpU_c x y w').mono fun e w'' h => ⟨h.1, h.2.symm⟩
          have hres : cmpv x y = r := by
            rw [HR.out]
            rcases Int.lt_or_lt_of_ne hxy with h | h
            · rw [Z.cmpv_lt h, Z.cmpv_lt (lv_at_lt (k := k - 1) DL.out DM.out (by rw [← HN.out]; omega) (by rw [← HM.out]; omega) (by rw [kk]; exact hd.out) (by rw [HX.out, HY.out]; exact h))]
            · rw [Z.cmpv_gt h, Z.cmpv_gt (lv_at_lt (k := k - 1) DM.out DL.out (by rw [← HM.out]; omega) (by rw [← HN.out]; omega) (by rw [kk]; exact hd.out.symm) (by rw [HX.out, HY.out]; exact h))]
          have HE := Lib.hid hres
          clear hxy kk hres
          go_wp2
          go_region
          go_wp2
          go_quiet ((go_at_call 102; exact (CU.out _).mono fun e w'' h => ⟨h.1, _, h.2⟩))
          go_wp2
          go_ret
          refine ⟨ret_int HE.out, _, World.drewN_drewN _ _ _⟩
      · obtain rfl : k = 0 := by omega
        have HE : r = 0 := by
          rw [HR.out]
          have := hd.out
          simp only [List.drop_zero] at this
          exact Z.cmpv_eq (by rw [this])
        have HE := Lib.hid HE
        go_wp2
        go_ret
        exact ⟨ret_int HE.out.symm, q, rfl⟩
  · have e1 : ((n : Int) != (m : Int)) = true := by rw [bne_iff_ne]; omega
    have CI := Lib.hid (cmpInt_c (n : Int) (m : Int))
    have hres : cmpv (n : Int) (m : Int) = r := by
      rw [HR.out]
      rcases Nat.lt_or_gt_of_ne h0 with h | h
      · rw [Z.cmpv_lt (by omega), Z.cmpv_lt (lv_len DL.out DM.out NM.out (by rw [← HN.out, ← HM.out]; exact h))]
      · rw [Z.cmpv_gt (by omega), Z.cmpv_gt (lv_len DM.out DL.out NL.out (by rw [← HN.out, ← HM.out]; exact h))]
    have HE := Lib.hid hres
    clear h0 hres
    go_enter Tryd.func85, Tryd.ntmps85
    go_wp2_with (first | (go_at_call 94; (with_reducible refine (CI.out _).mono ?_); rintro e w' ⟨rfl, rfl⟩))
    go_ret
    exact ⟨ret_int HE.out, 0, rfl⟩
end NC
end Go.Proofs.YtnpeokgjfnobmaaDoor

/-
  Plain mathematics: the borrow of a difference of limbs, as package math/bits finds it.
-/
namespace Go.Proofs.YtnpeokgjfnobmaaDoor.L
set_option linter.unusedVariables false
set_option linter.unusedSimpArgs false
theorem u32_op (op : BinOp) (f : Nat → Nat → Nat) (hop : ∀ a b : Nat, a < 4294967296 → b < 4294967296 → bits op .u32 (a : Int) (b : Int) = IntKind.u32.wrap ((f a b : Nat) : Int)) (hf : ∀ a b : Nat, a < 4294967296 → b < 4294967296 → f a b < 4294967296)
    (a b : Nat) (ha : a < 4294967296) (hb : b < 4294967296) : bits op .u32 (a : Int) (b : Int) = ((f a b : Nat) : Int) := by
  rw [hop a b ha hb, IntKind.wrap_u32]
  have := hf a b ha hb
  omega
theorem ofInt32 (a : Nat) (ha : a < 4294967296) : (BitVec.ofInt 32 (a : Int)).toNat = a := by
  rw [BitVec.ofInt_natCast, BitVec.toNat_ofNat]; exact Nat.mod_eq_of_lt (by omega)
theorem xor_u32 (a b : Nat) (ha : a < 4294967296) (hb : b < 4294967296) : bits .xor .u32 (a : Int) (b : Int) = ((a ^^^ b : Nat) : Int) := by
  have hx : a ^^^ b < 2 ^ 32 := Nat.xor_lt_two_pow (by omega) (by omega)
  show IntKind.u32.wrap ((BitVec.ofInt 32 (a : Int) ^^^ BitVec.ofInt 32 (b : Int)).toNat : Int) = _
  rw [BitVec.toNat_xor, ofInt32 a ha, ofInt32 b hb, IntKind.wrap_u32]
  omega
theorem and_u32 (a b : Nat) (ha : a < 4294967296) (hb : b < 4294967296) : bits .and .u32 (a : Int) (b : Int) = ((a &&& b : Nat) : Int) := by
  have hx : a &&& b < 2 ^ 32 := Nat.and_lt_two_pow _ (by omega)
  show IntKind.u32.wrap ((BitVec.ofInt 32 (a : Int) &&& BitVec.ofInt 32 (b : Int)).toNat : Int) = _
  rw [BitVec.toNat_and, ofInt32 a ha, ofInt32 b hb, IntKind.wrap_u32]
  omega
theorem or_u32 (a b : Nat) (ha : a < 4294967296) (hb : b < 4294967296) : bits .or .u32 (a : Int) (b : Int) = ((a ||| b : Nat) : Int) := by
  have hx : a ||| b < 2 ^ 32 := Nat.or_lt_two_pow (by omega) (by omega)
  show IntKind.u32.wrap ((BitVec.ofInt 32 (a : Int) ||| BitVec.ofInt 32 (b : Int)).toNat : Int) = _
  rw [BitVec.toNat_or, ofInt32 a ha, ofInt32 b hb, IntKind.wrap_u32]
  omega
theorem top_bit (e : Nat) (h : e < 4294967296) : e / 2147483648 = (e.testBit 31).toNat := by
  rw [Nat.testBit_eq_decide_div_mod_eq]
  by_cases h1 : e / 2 ^ 31 % 2 = 1
  · simp [h1]; omega
  · simp [h1]; omega
theorem borrow_nat (x y d : Nat) (hx : x < 4294967296) (hy : y < 4294967296) (hd : d < 4294967296) :
    ((((4294967295 ^^^ x) &&& y) ||| ((4294967295 ^^^ (x ^^^ y)) &&& d)) / 2147483648) =
      if (x / 2147483648 = 0 ∧ y / 2147483648 = 1) ∨ (x / 2147483648 = y / 2147483648 ∧ d / 2147483648 = 1) then 1 else 0 := by
  have h1 : (4294967295 ^^^ x) &&& y < 2 ^ 32 := Nat.and_lt_two_pow _ (by omega)
  have h2 : (4294967295 ^^^ (x ^^^ y)) &&& d < 2 ^ 32 := Nat.and_lt_two_pow _ (by omega)
  rw [top_bit _ (Nat.or_lt_two_pow h1 h2), top_bit x hx, top_bit y hy, top_bit d hd]
  simp only [Nat.testBit_or, Nat.testBit_and, Nat.testBit_xor]
  rw [show (4294967295 : Nat).testBit 31 = true by decide]
  cases x.testBit 31 <;> cases y.testBit 31 <;> cases d.testBit 31 <;> rfl
theorem borrow_eq (x y c : Int) (hx : 0 ≤ x ∧ x < 4294967296) (hy : 0 ≤ y ∧ y < 4294967296) (hc : 0 ≤ c ∧ c ≤ 1) :
    bits .or .u32 (bits .and .u32 (bits .xor .u32 IntKind.u32.max x) y) (bits .and .u32 (bits .xor .u32 IntKind.u32.max (bits .xor .u32 x y)) ((x - y - c) % 4294967296)) / 2147483648 =
      if x - y - c < 0 then 1 else 0 := by
  obtain ⟨a, rfl⟩ := Int.eq_ofNat_of_zero_le hx.1
  obtain ⟨b, rfl⟩ := Int.eq_ofNat_of_zero_le hy.1
  obtain ⟨d, hd⟩ := Int.eq_ofNat_of_zero_le (Int.emod_nonneg ((a : Int) - b - c) (by decide : (4294967296 : Int) ≠ 0))
  have hd2 : d < 4294967296 := by omega
  have ha : a < 4294967296 := by omega
  have hb : b < 4294967296 := by omega
  rw [hd, show IntKind.u32.max = ((4294967295 : Nat) : Int) by decide]
  have x1 : a ^^^ b < 2 ^ 32 := Nat.xor_lt_two_pow (by omega) (by omega)
  have x2 : 4294967295 ^^^ a < 2 ^ 32 := Nat.xor_lt_two_pow (by omega) (by omega)
  have x3 : 4294967295 ^^^ (a ^^^ b) < 2 ^ 32 := Nat.xor_lt_two_pow (by omega) (by omega)
  have x4 : (4294967295 ^^^ a) &&& b < 2 ^ 32 := Nat.and_lt_two_pow _ (by omega)
  have x5 : (4294967295 ^^^ (a ^^^ b)) &&& d < 2 ^ 32 := Nat.and_lt_two_pow _ (by omega)
  rw [xor_u32 _ _ (by omega) ha, and_u32 _ _ (by omega) hb, xor_u32 _ _ ha hb, xor_u32 _ _ (by omega) (by omega), and_u32 _ _ (by omega) hd2, or_u32 _ _ (by omega) (by omega)]
  rw [show ((2147483648 : Int)) = ((2147483648 : Nat) : Int) by rfl, ← Int.natCast_ediv, borrow_nat a b d ha hb hd2]
  split <;> split <;> omega
/-- shifted limbs put together -/
theorem or_low (y x : Int) (i : Nat) (hi : i ≤ 32) (hy₀ : 0 ≤ y) (hy : y < 2 ^ i) (hx₀ : 0 ≤ x) (hx : x % 2 ^ i = 0) (hx₁ : x < 4294967296) : bits .or .u32 y x = y + x :=
  bits_join_low .u32 32 (by decide) (fun n h0 h1 => by rw [IntKind.wrap_u32]; omega) i y x hy₀ hy (Int.lt_of_lt_of_le hy (by
    have : (2 : Int) ^ i ≤ 2 ^ 32 := by exact_mod_cast Nat.pow_le_pow_right (by decide : 0 < 2) hi
    exact this)) hx₀ hx (by omega)
theorem or_high64 (x y : Int) (hx₀ : 0 ≤ x) (hx : x % 4294967296 = 0) (hx₁ : x < 18446744073709551616) (hy₀ : 0 ≤ y) (hy : y < 4294967296) : bits .or .u64 x y = x + y :=
  bits_join .u64 64 (by decide) (fun n h0 h1 => by rw [IntKind.wrap_u64]; omega) 32 x y hx₀ (by simpa using hx) (by simpa using hx₁) hy₀ (by simpa using hy) (by omega)
end Go.Proofs.YtnpeokgjfnobmaaDoor.L

/-
  Package nat: bits.Add32, bits.Sub32; addTo, subFrom, addTimes.
-/
namespace Go.Proofs.YtnpeokgjfnobmaaDoor
set_option linter.unusedVariables false
set_option linter.unusedSimpArgs false
open Go.RowKit
set_option linter.unusedVariables false
namespace NC
open L
open Z (Nz Tz cmpv)
/-- a sum of limbs and what is carried -/
def RetC (w : World) (x y c : Int) (e : Ending) (w' : World) : Prop := ∃ z c', e = .returned (.tuple #[.int .u32 z, .int .u32 c']) ∧ 0 ≤ z ∧ z < 4294967296 ∧ 0 ≤ c' ∧ c' ≤ 1 ∧ Hid (z + 4294967296 * c' = x + y + c) ∧ w = w'
/-- a difference of limbs and what is borrowed -/
def RetB (w : World) (x y c : Int) (e : Ending) (w' : World) : Prop := ∃ z c', e = .returned (.tuple #[.int .u32 z, .int .u32 c']) ∧ 0 ≤ z ∧ z < 4294967296 ∧ 0 ≤ c' ∧ c' ≤ 1 ∧ Hid (z - 4294967296 * c' = x - y - c) ∧ w = w'
theorem Add32_c (x y c : Int) (w : World) (hx : 0 ≤ x ∧ x < 4294967296) (hy : 0 ≤ y ∧ y < 4294967296) (hc : 0 ≤ c ∧ c ≤ 1) :
    Calls Tryd.prog 116 #[.int .u32 x, .int .u32 y, .int .u32 c] w (RetC w x y c) := by
  go_enter Tryd.func116, Tryd.ntmps116
  go_wp2
  go_ret2
  exact ⟨_, _, rfl, by omega, by omega, by omega, by omega, by unfold Hid; omega, rfl⟩
theorem Sub32_c (x y c : Int) (w : World) (hx : 0 ≤ x ∧ x < 4294967296) (hy : 0 ≤ y ∧ y < 4294967296) (hc : 0 ≤ c ∧ c ≤ 1) :
    Calls Tryd.prog 103 #[.int .u32 x, .int .u32 y, .int .u32 c] w (RetB w x y c) := by
  have HB := Lib.hid (borrow_eq x y c hx hy hc)
  go_enter Tryd.func103, Tryd.ntmps103
  go_wp2
  rw [HB.out]
  go_ret2
  exact ⟨_, _, rfl, by omega, by omega, by split <;> omega, by split <;> omega, by unfold Hid; split <;> omega, rfl⟩
/-- written in place: block g from o on, n limbs; what is told -/
def RetEd (w : World) (g : Nat) (cs : Array Value) (o n : Nat) (p : List Int → Int → Prop) (e : Ending) (w' : World) : Prop :=
  ∃ M k, e = .returned (.int .u32 k) ∧ Ed w w' g cs o n M ∧ Lim M ∧ 0 ≤ k ∧ k < 4294967296 ∧ Hid (p M k)
/-- .. with no result -/
def RetEd0 (w : World) (g : Nat) (cs : Array Value) (o n : Nat) (p : List Int → Prop) (e : Ending) (w' : World) : Prop :=
  ∃ M, e = .returned (.tuple #[]) ∧ Ed w w' g cs o n M ∧ Lim M ∧ Hid (p M)
theorem addTo_c (g o n c : Nat) (cs : Array Value) (X Y : List Int) (vb : Value) (w : World) (hb : Blk w g 56 cs) (hx : Wn cs o X) (hn : X.length = n) (hY : SlA .u32 w vb Y g) (LX : Lim X) (LY : Lim Y)
    (hlen : Y.length ≤ n) (hN : n ≤ 1000000000) (hc : n ≤ c) :
    Calls Tryd.prog 114 #[.slice (some ⟨g, o, none⟩) n c, vb] w (RetEd w g cs o n fun M k => lv M + 4294967296 ^ n * k = lv X + lv Y ∧ k ≤ 1) := by
  have E0 := Lib.hid (Ed.start hb hx hn)
  have hY' := hY
  obtain ⟨B, d, rfl, hd, _⟩ := hY'
  have HY := Lib.hid hY
  obtain ⟨m, hm⟩ : ∃ m, m = Y.length := ⟨_, rfl⟩
  rw [← hm] at hd hlen HY ⊢
  have LY' := Lib.hid LY
  have HM := Lib.hid hm
  have HN := Lib.hid hn
  have I0 := Lib.hid (AddI.start Y LX)
  clear hY hb hx LX LY hm hn
  go_enter Tryd.func114, Tryd.ntmps114
  go_wp2
  go_loopw [11, 5] (fun iv cv wr => ∃ (i : Nat) (M : List Int) (k : Int), iv = .int .i64 i ∧ i ≤ m ∧ cv = .int .u32 k ∧ Hid (AddI X Y i M k) ∧ Hid (Ed w wr g cs o n M)) (fun iv _ _ => m - (intOf iv).toNat)
  case atStart => exact ⟨0, X, 0, rfl, by omega, rfl, I0, E0⟩
  case round =>
    obtain ⟨i, M, k, rfl, hi, rfl, hI, hE⟩ := hrel
    have ik := hI.out.c0
    have ik1 := hI.out.c1
    by_cases him : i < m
    · obtain ⟨ady, cy, ey, hcy, hyc⟩ := (HY.out.grown hE.out.grown).at_ i (by rw [← HM.out]; exact him)
      injection ey with ey1 ey2 ey3
      subst ey1
      clear ey2 ey3 hcy
      have hxc := hE.out.cell i (by omega)
      have bx := hI.out.lim.at_ i
      have bY := LY'.out.at_ i
      have fx := hE.out.frozen (o + i)
      obtain ⟨x, ex⟩ : ∃ x, M.getD i 0 = x := ⟨_, rfl⟩
      obtain ⟨y, ey⟩ : ∃ y, Y.getD i 0 = y := ⟨_, rfl⟩
      rw [ex] at hxc bx
      rw [ey] at hyc bY
      have EX := Lib.hid ex
      have EY := Lib.hid ey
      have A := Lib.hid (Add32_c x y k wr bx bY ⟨ik, ik1⟩)
      clear ex ey
      go_wp2_with (first | (go_at_call 116; (with_reducible refine (A.out).mono ?_); rintro e w2 ⟨z, k2, rfl, hz0, hz1, hk0, hk1, hs, rfl⟩))
      have hI2 := hI.out.step (by rw [HN.out]; omega) hz0 hz1 hk0 hk1 (by rw [EX.out, EY.out]; exact hs.out)
      exact ⟨⟨i + 1, _, k2, by simp, by omega, rfl, hI2, hE.out.set_ i (by omega) z⟩, by simp only [intOf]; omega⟩
    · obtain rfl : m = i := by omega
      go_wp2
      go_loopw [8, 5] (fun iv cv wr => ∃ (i : Nat) (M : List Int) (k : Int), iv = .int .i64 i ∧ m ≤ i ∧ i ≤ n ∧ cv = .int .u32 k ∧ Hid (AddI X Y i M k) ∧ Hid (Ed w wr g cs o n M)) (fun iv _ _ => n - (intOf iv).toNat)
      case atStart => exact ⟨m, M, k, rfl, Nat.le_refl _, hlen, rfl, hI, hE⟩
      case round =>
        obtain ⟨i, M, k, rfl, hmi, hi, rfl, hI, hE⟩ := hrel
        have ik := hI.out.c0
        have ik1 := hI.out.c1
        by_cases hin : i < n
        · by_cases hk : 0 < k
          · have e1 : decide (0 < k) = true := by simp [hk]
            have hxc := hE.out.cell i (by omega)
            have bx := hI.out.lim.at_ i
            have fx := hE.out.frozen (o + i)
            obtain ⟨x, ex⟩ : ∃ x, M.getD i 0 = x := ⟨_, rfl⟩
            rw [ex] at hxc bx
            have EX := Lib.hid ex
            have EY := Lib.hid (Z.getD_out (L := Y) (k := i) (by rw [← HM.out]; exact hmi))
            have A := Lib.hid (Add32_c x 0 k wr bx (by omega) ⟨ik, ik1⟩)
            clear ex hk
            go_wp2_with (first | (go_at_call 116; (with_reducible refine (A.out).mono ?_); rintro e w2 ⟨z, k2, rfl, hz0, hz1, hk0, hk1, hs, rfl⟩))
            have hI2 := hI.out.step (by rw [HN.out]; omega) hz0 hz1 hk0 hk1 (by rw [EX.out, EY.out]; exact hs.out)
            exact ⟨⟨i + 1, _, k2, by simp, by omega, by omega, rfl, hI2, hE.out.set_ i (by omega) z⟩, by simp only [intOf]; omega⟩
          · obtain rfl : k = 0 := by omega
            have hD := Lib.hid (hI.out.done (by rw [← HM.out]; exact hmi) (.inr rfl))
            go_wp2
            go_ret
            exact ⟨M, 0, rfl, hE.out, hI.out.lim, by omega, by omega, by rw [← HN.out]; exact hD.out, by omega⟩
        · obtain rfl : i = n := by omega
          have hD := Lib.hid (hI.out.done (by rw [← HM.out]; exact hmi) (.inl HN.out.symm))
          go_wp2
          go_ret
          exact ⟨M, k, rfl, hE.out, hI.out.lim, by omega, by omega, by rw [← HN.out]; exact hD.out, by omega⟩
theorem subFrom_c (g o n c : Nat) (cs : Array Value) (X Y : List Int) (vb : Value) (w : World) (hb : Blk w g 56 cs) (hx : Wn cs o X) (hn : X.length = n) (hY : SlA .u32 w vb Y g) (LX : Lim X) (LY : Lim Y)
    (hlen : Y.length ≤ n) (hN : n ≤ 1000000000) (hc : n ≤ c) (hle : lv Y ≤ lv X) :
    Calls Tryd.prog 86 #[.slice (some ⟨g, o, none⟩) n c, vb] w (RetEd0 w g cs o n fun M => lv M = lv X - lv Y) := by
  have E0 := Lib.hid (Ed.start hb hx hn)
  have hY' := hY
  obtain ⟨B, d, rfl, hd, _⟩ := hY'
  have HY := Lib.hid hY
  obtain ⟨m, hm⟩ : ∃ m, m = Y.length := ⟨_, rfl⟩
  rw [← hm] at hd hlen HY ⊢
  have LY' := Lib.hid LY
  have HM := Lib.hid hm
  have HN := Lib.hid hn
  have I0 := Lib.hid (SubI.start Y LX)
  have LX' := Lib.hid LX
  have HLE := Lib.hid hle
  clear hY hb hx LX LY hm hn hle
  go_enter Tryd.func86, Tryd.ntmps86
  go_wp2
  go_loopw [10, 4] (fun iv cv wr => ∃ (i : Nat) (M : List Int) (k : Int), iv = .int .i64 i ∧ i ≤ m ∧ cv = .int .u32 k ∧ Hid (SubI X Y i M k) ∧ Hid (Ed w wr g cs o n M)) (fun iv _ _ => m - (intOf iv).toNat)
  case atStart => exact ⟨0, X, 0, rfl, by omega, rfl, I0, E0⟩
  case round =>
    obtain ⟨i, M, k, rfl, hi, rfl, hI, hE⟩ := hrel
    have ik := hI.out.c0
    have ik1 := hI.out.c1
    by_cases him : i < m
    · obtain ⟨ady, cy, ey, hcy, hyc⟩ := (HY.out.grown hE.out.grown).at_ i (by rw [← HM.out]; exact him)
      injection ey with ey1 ey2 ey3
      subst ey1
      clear ey2 ey3 hcy
      have hxc := hE.out.cell i (by omega)
      have bx := hI.out.lim.at_ i
      have bY := LY'.out.at_ i
      have fx := hE.out.frozen (o + i)
      obtain ⟨x, ex⟩ : ∃ x, M.getD i 0 = x := ⟨_, rfl⟩
      obtain ⟨y, ey⟩ : ∃ y, Y.getD i 0 = y := ⟨_, rfl⟩
      rw [ex] at hxc bx
      rw [ey] at hyc bY
      have EX := Lib.hid ex
      have EY := Lib.hid ey
      have A := Lib.hid (Sub32_c x y k wr bx bY ⟨ik, ik1⟩)
      clear ex ey
      go_wp2_with (first | (go_at_call 103; (with_reducible refine (A.out).mono ?_); rintro e w2 ⟨z, k2, rfl, hz0, hz1, hk0, hk1, hs, rfl⟩))
      have hI2 := hI.out.step (by rw [HN.out]; omega) hz0 hz1 hk0 hk1 (by rw [EX.out, EY.out]; exact hs.out)
      exact ⟨⟨i + 1, _, k2, by simp, by omega, rfl, hI2, hE.out.set_ i (by omega) z⟩, by simp only [intOf]; omega⟩
    · obtain rfl : m = i := by omega
      go_wp2
      go_loopw [7, 4] (fun iv cv wr => ∃ (i : Nat) (M : List Int) (k : Int), iv = .int .i64 i ∧ m ≤ i ∧ i ≤ n ∧ cv = .int .u32 k ∧ Hid (SubI X Y i M k) ∧ Hid (Ed w wr g cs o n M)) (fun iv _ _ => n - (intOf iv).toNat)
      case atStart => exact ⟨m, M, k, rfl, Nat.le_refl _, hlen, rfl, hI, hE⟩
      case round =>
        obtain ⟨i, M, k, rfl, hmi, hi, rfl, hI, hE⟩ := hrel
        have ik := hI.out.c0
        have ik1 := hI.out.c1
        by_cases hin : i < n
        · by_cases hk : 0 < k
          · have e1 : decide (0 < k) = true := by simp [hk]
            have hxc := hE.out.cell i (by omega)
            have bx := hI.out.lim.at_ i
            have fx := hE.out.frozen (o + i)
            obtain ⟨x, ex⟩ : ∃ x, M.getD i 0 = x := ⟨_, rfl⟩
            rw [ex] at hxc bx
            have EX := Lib.hid ex
            have EY := Lib.hid (Z.getD_out (L := Y) (k := i) (by rw [← HM.out]; exact hmi))
            have A := Lib.hid (Sub32_c x 0 k wr bx (by omega) ⟨ik, ik1⟩)
            clear ex hk
            go_wp2_with (first | (go_at_call 103; (with_reducible refine (A.out).mono ?_); rintro e w2 ⟨z, k2, rfl, hz0, hz1, hk0, hk1, hs, rfl⟩))
            have hI2 := hI.out.step (by rw [HN.out]; omega) hz0 hz1 hk0 hk1 (by rw [EX.out, EY.out]; exact hs.out)
            exact ⟨⟨i + 1, _, k2, by simp, by omega, by omega, rfl, hI2, hE.out.set_ i (by omega) z⟩, by simp only [intOf]; omega⟩
          · obtain rfl : k = 0 := by omega
            have hD := Lib.hid (hI.out.done LX'.out (by rw [← HM.out]; exact hmi) (.inr rfl) HLE.out)
            go_wp2
            go_end0
            exact ⟨M, rfl, hE.out, hI.out.lim, hD⟩
        · obtain rfl : i = n := by omega
          have hD := Lib.hid (hI.out.done LX'.out (by rw [← HM.out]; exact hmi) (.inl HN.out.symm) HLE.out)
          go_wp2
          go_end0
          exact ⟨M, rfl, hE.out, hI.out.lim, hD⟩
theorem addTimes_c (g o n c : Nat) (cs : Array Value) (X Y : List Int) (vb : Value) (q : Int) (w : World) (hb : Blk w g 56 cs) (hx : Wn cs o X) (hn : X.length = n) (hY : SlA .u32 w vb Y g) (LX : Lim X) (LY : Lim Y)
    (hlen : Y.length ≤ n) (hN : n ≤ 1000000000) (hc : n ≤ c) (hq : 0 ≤ q ∧ q < 4294967296) :
    Calls Tryd.prog 101 #[.slice (some ⟨g, o, none⟩) n c, vb, .int .u32 q] w (RetEd w g cs o n fun M k => lv M + 4294967296 ^ Y.length * k = lv X + q * lv Y ∧ ∀ j, Y.length ≤ j → M.getD j 0 = X.getD j 0) := by
  have E0 := Lib.hid (Ed.start hb hx hn)
  have hY' := hY
  obtain ⟨B, d, rfl, hd, _⟩ := hY'
  have HY := Lib.hid hY
  obtain ⟨m, hm⟩ : ∃ m, m = Y.length := ⟨_, rfl⟩
  rw [← hm] at hd hlen HY ⊢
  have LY' := Lib.hid LY
  have HM := Lib.hid hm
  have HN := Lib.hid hn
  have I0 := Lib.hid (TimI.start 1 Y q LX)
  clear hY hb hx LX LY hm hn
  go_enter Tryd.func101, Tryd.ntmps101
  go_wp2
  go_loopw [12, 7] (fun iv cv wr => ∃ (i : Nat) (M : List Int) (k : Int), iv = .int .i64 i ∧ i ≤ m ∧ cv = .int .u64 k ∧ k < 4294967296 ∧ Hid (TimI 1 X Y q i M k) ∧ Hid (Ed w wr g cs o n M)) (fun iv _ _ => m - (intOf iv).toNat)
  case atStart => exact ⟨0, X, 0, rfl, by omega, rfl, by omega, I0, E0⟩
  case round =>
    obtain ⟨i, M, k, rfl, hi, rfl, hk, hI, hE⟩ := hrel
    have ik := hI.out.c0
    by_cases him : i < m
    · obtain ⟨ady, cy, ey, hcy, hyc⟩ := (HY.out.grown hE.out.grown).at_ i (by rw [← HM.out]; exact him)
      injection ey with ey1 ey2 ey3
      subst ey1
      clear ey2 ey3 hcy
      have hxc := hE.out.cell i (by omega)
      have bx := hI.out.lim.at_ i
      have bY := LY'.out.at_ i
      have fx := hE.out.frozen (o + i)
      obtain ⟨x, ex⟩ : ∃ x, M.getD i 0 = x := ⟨_, rfl⟩
      obtain ⟨y, ey⟩ : ∃ y, Y.getD i 0 = y := ⟨_, rfl⟩
      rw [ex] at hxc bx
      rw [ey] at hyc bY
      have hxy : 0 ≤ y * q := Int.mul_nonneg bY.1 hq.1
      have hxy2 : y * q ≤ 4294967295 * 4294967295 := Int.mul_le_mul (by omega) (by omega) hq.1 (by omega)
      have hS : ∀ z c', 0 ≤ z → z < 4294967296 → 0 ≤ c' → c' ≤ 4294967296 → z + 4294967296 * c' = x + y * q + k → TimI 1 X Y q (i + 1) (M.set i z) c' := fun z c' h0 h1 h2 h3 h4 =>
        hI.out.step (by rw [HN.out]; omega) h0 h1 h2 h3 (by rw [ex, ey]; omega)
      have HS := Lib.hid hS
      have hES := Lib.hid (fun z => hE.out.set_ i (by omega) z)
      clear ex ey hS
      obtain ⟨p, hp⟩ : ∃ p, y * q = p := ⟨_, rfl⟩
      rw [hp] at hxy hxy2 HS
      go_wp2
      exact ⟨⟨i + 1, _, _, by simp, by omega, rfl, by omega, HS.out _ _ (by omega) (by omega) (by omega) (by omega) (by omega), hES.out _⟩, by simp only [intOf]; omega⟩
    · obtain rfl : m = i := by omega
      have hD := Lib.hid (hI.out.done (by rw [← HM.out]; exact Nat.le_refl _))
      have hR := Lib.hid hI.out.rest
      go_wp2
      go_ret
      exact ⟨M, k, rfl, hE.out, hI.out.lim, by omega, by omega, by have := hD.out; omega, hR.out⟩
end NC
end Go.Proofs.YtnpeokgjfnobmaaDoor

/-
  Words for memory: limbs copied into a new zeroed block; what a call tells: limbs in normal form, and an error.
-/
namespace Go.Proofs.YtnpeokgjfnobmaaDoor
set_option linter.unusedVariables false
set_option linter.unusedSimpArgs false
open Go.RowKit
set_option linter.unusedVariables false
namespace NC
open L
open Z (Nz Tz cmpv)
theorem Wn.row (L : List Int) : Wn ((L.map (Value.int .u32)).toArray) 0 L := by
  intro j hj
  rw [List.getElem?_toArray, List.getElem?_map, Nat.zero_add, List.getD_eq_getElem?_getD, List.getElem?_eq_getElem hj]
  rfl
theorem splice_limbs (N : Nat) (l : List Int) (h : l.length ≤ N) : splice ((List.replicate N (0 : Int)).map (Value.int .u32)) 0 (l.map (Value.int .u32)) = (l ++ List.replicate (N - l.length) 0).map (Value.int .u32) := by
  simp [splice]
theorem wp_copy_limbs {w : World} {ops : Array Oper} {rest : List Oper} {o : Oper} {a : Act} {Q : Exit → Act → World → Prop} (hgd : o.guard = none) (d s : Operand)
    (ho : o.op = .call { callee := .builtin .copy, args := #[d, s], argTypes := #[22, 22] }) (g N : Nat) (hd : a.eval d = .slice (some ⟨g, 0, none⟩) N N) (vs : Value) (hs : a.eval s = vs) (l : List Int) (hS : Sl .u32 w vs l) (hl : l.length ≤ N)
    (hg : Row .u32 56 w g (List.replicate N 0)) (B : Nat) (w0 : World) (hb : Below B w0 w) (hBg : B ≤ g)
    (h : ∀ w', Hid (Row .u32 56 w' g (l ++ List.replicate (N - l.length) 0)) → Below B w0 w' → wpList Tryd.prog ops Q rest (a.put o.dst (goInt l.length)) w') : wpList Tryd.prog ops Q (o :: rest) a w := by
  obtain ⟨A, c, rfl, hc, hA⟩ := hS
  refine wpList_copy_splice hgd d s 22 22 ho 56 Tryd.underlying22 (by kernel_rfl) (some ⟨g, 0, none⟩) A N N l.length c hd hs g 0 ((List.replicate N (0 : Int)).map (Value.int .u32)) 56 hg (l.map (Value.int .u32)) (by rw [List.length_map]; exact (Nat.min_eq_left hl).symm)
    (fun h0 => ⟨rfl, ?_⟩) (by simp; exact hl) (by intro v hv; obtain ⟨z, _, rfl⟩ := List.mem_map.1 hv; rfl) B w0 hb hBg ?_
  · rcases hA with h1 | ⟨ad, rfl, hb1, hc1⟩
    · subst h1; simp at h0
    · refine ⟨ad, rfl, fun j v hv => ?_⟩
      have hj : j < l.length := by
        rcases Nat.lt_or_ge j l.length with h | h
        · exact h
        · rw [List.getElem?_eq_none (by simpa using h)] at hv; cases hv
      rw [hc1 j hj]
      rw [List.getElem?_map, List.getElem?_eq_getElem hj] at hv
      simpa using hv
  · intro w' hw' hb'
    have hR := hw'.out
    rw [splice_limbs N l hl] at hR
    have := h w' hR hb'
    simpa using this
/-- limbs in normal form that tell 'z', and an error -/
def RetL (w : World) (er z : Int) (e : Ending) (w' : World) : Prop := ∃ A n c, e = .returned (.tuple #[.slice A n c, .int .i64 er]) ∧ NV w' (.slice A n c) z ∧ Below w.heap.size w w'
theorem NV.nil (w : World) (c : Nat) (A : Option Addr) : NV w (.slice A 0 c) 0 := ⟨[], Sl.nil _ _ _ _, Lim.nil, (by intro h; exact absurd rfl h), rfl⟩
theorem RetL.err {w w' : World} {er : Int} (hb : Below w.heap.size w w') : RetL w er 0 (.returned (.tuple #[.slice none 0 0, .int .i64 er])) w' := ⟨none, 0, 0, rfl, NV.nil _ _ _, hb⟩
theorem chk_ok {l : List Int} : chk l = 0 ↔ l.length ≤ 400 ∧ Nz l := by
  unfold chk
  by_cases h4 : 400 < l.length
  · rw [if_pos h4]; constructor
    · intro h; cases h
    · intro h; omega
  · rw [if_neg h4]
    by_cases hne : l = []
    · subst hne
      exact ⟨fun _ => ⟨by simp, fun h => absurd rfl h⟩, fun _ => rfl⟩
    · by_cases h0 : l.getLast hne = 0
      · rw [if_pos (by rw [List.getLast?_eq_some_getLast hne, h0])]
        constructor
        · intro h; cases h
        · intro h; exact absurd h0 (h.2 hne)
      · rw [if_neg (by rw [List.getLast?_eq_some_getLast hne]; simpa using h0)]
        exact ⟨fun _ => ⟨by omega, fun _ => h0⟩, fun _ => rfl⟩
theorem chk2_ok {l m : List Int} : chk2 l m = 0 ↔ chk l = 0 ∧ chk m = 0 := by
  unfold chk2
  by_cases h : chk l = 0
  · rw [if_neg (by simpa using h)]; simp [h]
  · rw [if_pos h]; simp [h]
theorem trimmed {w' : World} {A : Option Addr} {c m : Nat} {L : List Int} {z : Int} (hs : Sl .u32 w' (.slice A L.length c) L) (hm : m ≤ L.length) (hl : Lim L) (hn : Nz (L.take m)) (hv : lv (L.take m) = lv L) (hz : lv L = z) : NV w' (.slice A m c) z :=
  ⟨L.take m, hs.take m hm, hl.take m, hn, hv.trans hz⟩
theorem Ed.sl {w w' : World} {g : Nat} {cs : Array Value} {o n : Nat} {M : List Int} (h : Ed w w' g cs o n M) (c : Nat) (hc : n ≤ c) : Sl .u32 w' (.slice (some ⟨g, o, none⟩) M.length c) M := by
  obtain ⟨cs', hb, _, hM, _⟩ := h.blk
  refine ⟨_, c, rfl, by rw [h.len]; exact hc, .inr ⟨⟨g, o, none⟩, rfl, hb.lt, fun j hj => ?_⟩⟩
  have e : (⟨g, o, none⟩ : Addr).add j = ⟨g, o + j, none⟩ := by unfold Addr.add; split <;> simp_all
  rw [e, hb.at_ _ (hM j hj), List.getD_eq_getElem?_getD, List.getElem?_eq_getElem hj]; rfl
theorem lv_pad (l : List Int) (k : Nat) : lv (l ++ List.replicate k 0) = lv l := by rw [lv_append, lv_rep]; simp
theorem Lim.pad {l : List Int} (h : Lim l) (k : Nat) : Lim (l ++ List.replicate k 0) := h.app (Lim.rep k)
theorem len_pad (l : List Int) (N : Nat) (h : l.length ≤ N) : (l ++ List.replicate (N - l.length) 0).length = N := by simp; omega
theorem no_carry {l m M : List Int} {N : Nat} {k : Int} (hl : Lim l) (hm : Lim m) (h1 : l.length < N) (h2 : m.length < N) (hM : Lim M) (k0 : 0 ≤ k) (h : lv M + 4294967296 ^ N * k = lv l + lv m) : lv M = lv l + lv m := by
  obtain ⟨n, rfl⟩ : ∃ n, N = n + 1 := ⟨N - 1, by omega⟩
  have a1 := Int.lt_of_lt_of_le (lv_lt hl) (pow_mono (show l.length ≤ n by omega))
  have a2 := Int.lt_of_lt_of_le (lv_lt hm) (pow_mono (show m.length ≤ n by omega))
  have a3 := lv_nonneg hM
  have a4 := pow_pos n
  rw [Int.pow_succ] at h
  by_cases hk : k = 0
  · subst hk; simpa using h
  · have : (4294967296 : Int) ^ n * 4294967296 * 1 ≤ 4294967296 ^ n * 4294967296 * k := Int.mul_le_mul_of_nonneg_left (by omega) (by omega)
    omega
end NC
end Go.Proofs.YtnpeokgjfnobmaaDoor

/-
  Package nat: Of, Cmp, Add.
-/
namespace Go.Proofs.YtnpeokgjfnobmaaDoor
set_option linter.unusedVariables false
set_option linter.unusedSimpArgs false
open Go.RowKit
set_option linter.unusedVariables false
namespace NC
open L
open Z (Nz Tz cmpv)
theorem Cmp_c (u v : Value) (l m : List Int) (w : World) (hs : Sl .u32 w u l) (ht : Sl .u32 w v m) (hl : l.length ≤ 9223372036854775807) (hm : m.length ≤ 9223372036854775807) (Ll : Lim l) (Lm : Lim m) :
    Calls Tryd.prog 97 #[u, v] w (RetQ w (.tuple #[.int .i64 (if chk2 l m = 0 then cmpv (lv l) (lv m) else 0), .int .i64 (chk2 l m)])) := by
  have C := Lib.hid (checkBoth_c u v l m w hs ht hl hm)
  obtain ⟨r, hr⟩ : ∃ r, r = chk2 l m := ⟨_, rfl⟩
  rw [← hr] at C ⊢
  by_cases h : r = 0
  · have h1 := (chk2_ok.1 (hr.symm.trans h))
    have h2 := chk_ok.1 h1.1
    have h3 := chk_ok.1 h1.2
    have P := Lib.hid (compare_c u v l m w hs ht Ll Lm h2.2 h3.2 (by omega) (by omega))
    rw [if_pos h]
    clear hs ht hl hm Ll Lm hr h1 h2 h3
    subst h
    generalize cmpv (lv l) (lv m) = q at P ⊢
    go_enter Tryd.func97, Tryd.ntmps97
    go_wp2_with (first | (go_at_call 100; (with_reducible refine (C.out).mono ?_); rintro e w' ⟨rfl, rfl⟩) | (go_at_call 85; (with_reducible refine (P.out).mono ?_); rintro e w2 ⟨rfl, k, rfl⟩))
    go_ret2
    exact ⟨rfl, k, rfl⟩
  · have e1 : (r != 0) = true := by simp [h]
    rw [if_neg h]
    clear hs ht hl hm Ll Lm hr h
    go_enter Tryd.func97, Tryd.ntmps97
    go_wp2_with (first | (go_at_call 100; (with_reducible refine (C.out).mono ?_); rintro e w' ⟨rfl, rfl⟩))
    go_ret2
    exact ⟨rfl, 0, rfl⟩
/-- limbs in normal form that tell 'z' -/
def RetV (w : World) (z : Int) (e : Ending) (w' : World) : Prop := ∃ A n c, e = .returned (.slice A n c) ∧ NV w' (.slice A n c) z ∧ Below w.heap.size w w'
/-- a block of the call's own, written; it reads M, which tells z -/
def RetRow (w : World) (g N : Nat) (z : Int) (e : Ending) (w' : World) : Prop := ∃ M k, e = .returned (.int .u32 k) ∧ w.grownBy w' (some g) ∧ Hid (Sl .u32 w' (.slice (some ⟨g, 0, none⟩) N N) M ∧ M.length = N ∧ Lim M ∧ lv M = z)
set_option maxRecDepth 100000 in
theorem addTo_row (g N : Nat) (l m : List Int) (vb : Value) (w : World) (hR : Row .u32 56 w g (l ++ List.replicate (N - l.length) 0)) (hY : SlA .u32 w vb m g) (Ll : Lim l) (Lm : Lim m) (hl : l.length < N) (hm : m.length < N) (hN : N ≤ 1000000000) :
    Calls Tryd.prog 114 #[.slice (some ⟨g, 0, none⟩) N N, vb] w (RetRow w g N (lv l + lv m)) := by
  refine (addTo_c g 0 N N _ _ m vb w hR (Wn.row _) (len_pad l N (by omega)) hY (Lim.pad Ll _) Lm (by omega) hN (Nat.le_refl _)).mono fun e w' h => ?_
  obtain ⟨M, k, rfl, hE, hL, k0, k1, hv⟩ := h
  have hv := hv.out
  rw [lv_pad] at hv
  have hS := hE.sl N (Nat.le_refl _)
  rw [hE.len] at hS
  exact ⟨M, k, rfl, hE.grown, hS, hE.len, hL, no_carry Ll Lm hl hm hL k0 hv.1⟩
set_option maxRecDepth 100000 in
theorem Add_c (u v : Value) (l m : List Int) (w : World) (hs : Sl .u32 w u l) (ht : Sl .u32 w v m) (hl : l.length ≤ 9223372036854775807) (hm : m.length ≤ 9223372036854775807) (Ll : Lim l) (Lm : Lim m) :
    Calls Tryd.prog 108 #[u, v] w (RetL w (chk2 l m) (if chk2 l m = 0 then lv l + lv m else 0)) := by
  have C := Lib.hid (checkBoth_c u v l m w hs ht hl hm)
  obtain ⟨r, hr⟩ : ∃ r, r = chk2 l m := ⟨_, rfl⟩
  rw [← hr] at C ⊢
  by_cases h : r = 0
  · have h1 := (chk2_ok.1 (hr.symm.trans h))
    have h2 := chk_ok.1 h1.1
    have h3 := chk_ok.1 h1.2
    rw [if_pos h]
    obtain ⟨A, c, rfl, hc⟩ := hs.form
    obtain ⟨B, d, rfl, hd⟩ := ht.form
    have HS := Lib.hid hs
    have HT := Lib.hid ht
    have LL := Lib.hid Ll
    have LM := Lib.hid Lm
    obtain ⟨x, ex⟩ : ∃ x, x = l.length := ⟨_, rfl⟩
    obtain ⟨y, ey⟩ : ∃ y, y = m.length := ⟨_, rfl⟩
    have hmkx := run_make_row' (P := Tryd.prog) 22 56 (.int .u32 0) 4 Tryd.underlying22 (by kernel_rfl) rfl .i64 .i64 (x + 1) (by have := h2.1; omega) (by have := h2.1; omega)
    have hmky := run_make_row' (P := Tryd.prog) 22 56 (.int .u32 0) 4 Tryd.underlying22 (by kernel_rfl) rfl .i64 .i64 (y + 1) (by have := h3.1; omega) (by have := h3.1; omega)
    rw [show ((x + 1 : Nat) : Int) = (x : Int) + 1 by omega] at hmkx
    rw [show ((y + 1 : Nat) : Int) = (y : Int) + 1 by omega] at hmky
    rw [← ex] at hc h2 C HS ⊢
    rw [← ey] at hd h3 C HT ⊢
    have EX := Lib.hid ex
    have EY := Lib.hid ey
    have x4 : x ≤ 400 := h2.1
    have y4 : y ≤ 400 := h3.1
    clear hs ht hl hm Ll Lm hr h1 h2 h3 ex ey
    subst h
    go_enter Tryd.func108, Tryd.ntmps108
    go_wp2_with (first | (go_at_call 100; (with_reducible refine (C.out).mono ?_); rintro e w' ⟨rfl, rfl⟩) | (with_reducible refine wp_copy_limbs rfl (.tmp 21) (.tmp 22) rfl w.heap.size _ rfl _ rfl l (HS.out.below ((Below.refl _ _).alloc (Nat.le_refl _) _)) (by have := EX.out; omega) (Row.new' _ _ _ _ rfl) w.heap.size w ((Below.refl _ _).alloc (Nat.le_refl _) _) (Nat.le_refl _) ?_; intro w3 hR3 hB3) | (go_at_call 114; (with_reducible refine (addTo_row w.heap.size _ l m _ w3 hR3.out (SlA.old HT.out hB3 (Nat.le_refl _)) LL.out LM.out (by have := EX.out; omega) (by have := EY.out; omega) (by omega)).mono ?_); rintro e w4 ⟨M, k, rfl, hg4, h4⟩) | (go_at_call 58; (with_reducible refine (trim_c _ _ _ M _ h4.out.1 (by have := h4.out.2.1; omega)).mono ?_); rintro e w5 ⟨m5, rfl, hm5, hz5, hv5, rfl⟩))
    all_goals go_ret2
    all_goals exact ⟨_, _, _, rfl, trimmed (L := M) (by rw [h4.out.2.1]; exact h4.out.1) hm5 h4.out.2.2.1 hz5 hv5 h4.out.2.2.2, hB3.grown hg4 hB3.size fun k hk => by injection hk with hk; omega⟩
  · have e1 : (r != 0) = true := by simp [h]
    rw [if_neg h]
    clear hs ht hl hm Ll Lm hr h
    go_enter Tryd.func108, Tryd.ntmps108
    go_wp2_with (first | (go_at_call 100; (with_reducible refine (C.out).mono ?_); rintro e w' ⟨rfl, rfl⟩))
    go_ret2
    exact RetL.err (Below.refl _ _)
end NC
end Go.Proofs.YtnpeokgjfnobmaaDoor

/-
  Package nat: clone, Sub.
-/
namespace Go.Proofs.YtnpeokgjfnobmaaDoor
set_option linter.unusedVariables false
set_option linter.unusedSimpArgs false
open Go.RowKit
set_option linter.unusedVariables false
namespace NC
open L
open Z (Nz Tz cmpv)
theorem el_u32 : Elem 22 56 .u32 := Elem.of Tryd.underlying22 (b := 4) (by kernel_rfl) (by decide)
/-- limbs at the head of a block of the call's own -/
def Head (w : World) (B g c : Nat) (l : List Int) : Prop := B ≤ g ∧ l.length ≤ c ∧ ∃ cs, Blk w g 56 cs ∧ Wn cs 0 l
theorem own_head {w : World} {B : Nat} {v : Value} {l : List Int} (h : Own .u32 56 w B v l) (hne : l ≠ []) : ∃ g c, v = .slice (some ⟨g, 0, none⟩) l.length c ∧ Head w B g c l := by
  rcases h.2 with ⟨_, h0⟩ | ⟨g, cap, cur, rfl, hg, hgg, hc, hm, hs, ht⟩
  · exact absurd (List.eq_nil_of_length_eq_zero h0) hne
  · refine ⟨g, cap, rfl, hg, hc, cur, hgg, fun j hj => ?_⟩
    have e := congrArg (fun x => x[j]?) ht
    simp only [Nat.mul_one, List.getElem?_map] at e
    rw [List.getElem?_take, if_pos hj, List.getElem?_eq_getElem hj] at e
    rw [Nat.zero_add, ← Array.getElem?_toList, e, List.getD_eq_getElem?_getD, List.getElem?_eq_getElem hj]; rfl
theorem wp_clone {w : World} {ops : Array Oper} {rest : List Oper} {o : Oper} {a : Act} {Q : Exit → Act → World → Prop} (hgd : o.guard = none) (s x : Operand)
    (hop : o.op = Op.call { callee := Callee.builtin Builtin.append, args := #[s, x], argTypes := #[22, 22] })
    (g : Nat) (hs : a.eval s = .slice (some ⟨g, 0, none⟩) 0 0) (vx : Value) (hx : a.eval x = vx) (l : List Int) (hS : Sl .u32 w vx l) (hl : l.length ≤ 1000000000000) (hg : Blk w g 56 #[])
    (h : ∀ g' c w', Hid (Head w' g g' c l) → w.grownBy w' none → wpList Tryd.prog ops Q rest (a.put o.dst (.slice (some ⟨g', 0, none⟩) l.length c)) w') : wpList Tryd.prog ops Q (o :: rest) a w := by
  refine wpList_plain hgd fun K hK => ?_
  obtain ⟨i, hi, h0, h1, h2⟩ := el_u32.info
  obtain ⟨A, cx, rfl, hcx, hA⟩ := hS
  by_cases hM0 : l = []
  · subst hM0
    have hsrc : Src Tryd.prog i.size 22 (.slice A 0 cx) 0 [] w := by
      cases A with
      | none => exact Src.ofNil w el_u32.ht cx
      | some adx => exact Src.ofSlice w el_u32.ht adx 0 cx [] (by simp) (by intro j u hu; cases hu) (by intro u hu; cases hu)
    have hrun := run_append_nothing (P := Tryd.prog) w 22 22 o.type 56 i el_u32.ht hi (some ⟨g, 0, none⟩) 0 0 (by omega) _ hsrc
    have hx' : a.eval x = .slice A 0 cx := hx
    unfold Oper.wp
    simp [execOp, hop, resolve, invoke, builtin, hs, hx', hrun, Result.andThen]
    exact hK _ _ (h g 0 w ⟨Nat.le_refl _, Nat.le_refl _, #[], hg, (by intro j hj; simp at hj)⟩ (World.grownBy.refl _ _))
  · rcases hA with h' | ⟨adx, rfl, hb1, hc1⟩
    · exact absurd h' hM0
    · have hM : Sl .u32 w (.slice (some adx) l.length cx) l := ⟨_, cx, rfl, hcx, .inr ⟨adx, rfl, hb1, hc1⟩⟩
      have hpos := List.length_pos_iff.2 hM0
      have hbytes : (0 + l.length) * i.bytes ≤ (0 + l.length) * 8 := Nat.mul_le_mul_left _ h2
      have hstep := step_append_grows (ops := #[]) (E := True) (Q := Q) (K := K) hgd s x 22 hop 56 i (.int .u32 0) 1 i.bytes el_u32.ht hi h0 h1 rfl rfl (by decide) (some ⟨g, 0, none⟩) 0 0 [] hs (fun h => by cases h) (by simp) (by intro b hb j u hu; cases hu)
        adx l.length cx (l.map (Value.int .u32)) hx (by simp) hM.news (by intro u hu; obtain ⟨z, _, rfl⟩ := List.mem_map.1 hu; rfl) (by omega) (by unfold maxLen; omega) (by omega) ?_
      · rwa [if_pos (by simp [Region.wanted, hgd])] at hstep
      · intro v' w' hown hgr
        have hown' : Own .u32 56 w' w.heap.size v' l := by
          unfold Own
          simpa using hown
        obtain ⟨g', c', rfl, hd⟩ := own_head hown' hM0
        refine hK _ _ (h g' c' w' ⟨Nat.le_trans (Nat.le_of_lt hg.lt) hd.1, hd.2⟩ ?_)
        exact hgr
/-- a copy, in a block of the call's own -/
def RetH (w : World) (l : List Int) (e : Ending) (w' : World) : Prop := ∃ g c, e = .returned (.slice (some ⟨g, 0, none⟩) l.length c) ∧ Hid (Head w' w.heap.size g c l) ∧ Below w.heap.size w w'
theorem clone_c (v : Value) (l : List Int) (w : World) (hs : Sl .u32 w v l) (hl : l.length ≤ 1000000000) : Calls Tryd.prog 57 #[v] w (RetH w l) := by
  obtain ⟨A, c, rfl, hc⟩ := hs.form
  have HS := Lib.hid (hs.alloc (.cells #[] 56))
  obtain ⟨n, hn⟩ : ∃ n, n = l.length := ⟨_, rfl⟩
  rw [← hn] at hc hl HS ⊢
  have HN := Lib.hid hn
  clear hs hn
  go_enter Tryd.func57, Tryd.ntmps57
  go_wp2_with (first | (at_builtin; refine wp_clone rfl (.tmp 3) (.tmp 4) rfl w.heap.size rfl _ rfl l HS.out (by have := HN.out; omega) (Blk.new _ _ _) ?_; intro g' c' w2 hH hg))
  go_ret
  exact ⟨g', c', rfl, hH, ((Below.refl _ _).alloc (Nat.le_refl _) _).grown hg (by simp) fun k hk => by cases hk⟩
/-- what Sub tells of an error -/
def errSub (l m : List Int) : Int := if chk2 l m = 0 then (if lv l < lv m then 1 else 0) else chk2 l m
end NC
end Go.Proofs.YtnpeokgjfnobmaaDoor

/-
  Words for memory: a stretch within a block of limbs that is known whole, written in place.
-/
namespace Go.Proofs.YtnpeokgjfnobmaaDoor
set_option linter.unusedVariables false
set_option linter.unusedSimpArgs false
open Go.RowKit
set_option linter.unusedVariables false
namespace NC
open L
open Z (Nz Tz cmpv)
theorem Wn.part (P : List Int) (i n : Nat) : Wn ((P.map (Value.int .u32)).toArray) i ((P.drop i).take n) := by
  intro j hj
  have hj' : i + j < P.length := by simp at hj; omega
  have hn : j < n := by simp at hj; omega
  rw [List.getElem?_toArray, List.getElem?_map, List.getElem?_eq_getElem hj', List.getD_eq_getElem?_getD, List.getElem?_take, if_pos hn, List.getElem?_drop, List.getElem?_eq_getElem hj']
  rfl
theorem Ed.row {w w' : World} {g i n : Nat} {P M : List Int} (h : Ed w w' g ((P.map (Value.int .u32)).toArray) i n M) (hin : i + n ≤ P.length) : Row .u32 56 w' g (P.take i ++ (M ++ P.drop (i + n))) := by
  obtain ⟨cs', hb, hsz, hM, hf⟩ := h.blk
  have e : cs' = ((P.take i ++ (M ++ P.drop (i + n))).map (Value.int .u32)).toArray := by
    apply Array.ext_getElem?
    intro j
    have hlen := h.len
    have hr : ∀ X : List Int, ((X.map (Value.int .u32)).toArray)[j]? = (X[j]?).map (Value.int .u32) := fun X => by simp
    rw [hr]
    rcases Nat.lt_or_ge j i with h1 | h1
    · rw [hf j (.inl h1), List.getElem?_append_left (by simp; omega), List.getElem?_take, if_pos h1, hr]
    · rw [List.getElem?_append_right (by simp; omega), List.length_take, Nat.min_eq_left (by omega)]
      rcases Nat.lt_or_ge j (i + n) with h2 | h2
      · have := hM (j - i) (by omega)
        rw [show i + (j - i) = j by omega] at this
        rw [this, List.getElem?_append_left (by omega), List.getD_eq_getElem?_getD, List.getElem?_eq_getElem (by omega)]; rfl
      · rw [hf j (.inr h2), List.getElem?_append_right (by omega), List.getElem?_drop, hr, show i + n + (j - i - M.length) = j by omega]
  unfold Row
  rw [← e]; exact hb
/-- multiplying under way: so many limbs of l have been taken times m -/
structure MulN (l m : List Int) (N i : Nat) (P : List Int) : Prop where
  len : P.length = N
  lim : Lim P
  val : lv P = lv (l.take i) * lv m
  zero : ∀ j, i + m.length ≤ j → P.getD j 0 = 0
theorem MulN.start (l m : List Int) (N : Nat) : MulN l m N 0 (List.replicate N 0) := ⟨by simp, Lim.rep _, by rw [lv_rep]; simp [lv], fun j _ => Z.getD_rep _ _⟩
theorem MulN.step {l m P M : List Int} {N i : Nat} {k q : Int} (h : MulN l m N i P) (hi : i + m.length < N) (hq : l.getD i 0 = q) (hM : M.length = N - i) (lM : Lim M) (k0 : 0 ≤ k) (k1 : k < 4294967296)
    (hv : lv M + 4294967296 ^ m.length * k = lv (P.drop i) + q * lv m) (hf : ∀ j, m.length ≤ j → M.getD j 0 = (P.drop i).getD j 0) : MulN l m N (i + 1) ((P.take i ++ M).set (i + m.length) k) := by
  have hl : (P.take i ++ M).length = N := by simp [hM, h.len]; omega
  have e1 : ∀ j, (P.drop i).getD j 0 = P.getD (i + j) 0 := fun j => by simp [List.getD_eq_getElem?_getD]
  have e2 : ∀ j, i ≤ j → (P.take i ++ M).getD j 0 = M.getD (j - i) 0 := fun j hj => by
    rw [List.getD_eq_getElem?_getD, List.getElem?_append_right (by simp [h.len]; omega), List.getD_eq_getElem?_getD]
    simp [h.len, Nat.min_eq_left (show i ≤ N by omega)]
  refine ⟨by simp [hl], (((h.lim.take i).app lM).set _ k0 k1), ?_, fun j hj => ?_⟩
  · rw [lv_set _ _ _ (by omega), e2 _ (by omega), show i + m.length - i = m.length by omega, hf _ (Nat.le_refl _), e1, h.zero _ (Nat.le_refl _), lv_append, lv_take_succ, hq]
    have h2 := lv_cut P i (by rw [h.len]; omega)
    have h3 := h.val
    have e3 : (P.take i).length = i := by simp [h.len]; omega
    rw [e3, Int.pow_add]
    have e4 : (4294967296 : Int) ^ i * (lv M + 4294967296 ^ m.length * k) = 4294967296 ^ i * (lv (P.drop i) + q * lv m) := by rw [hv]
    grind
  · rw [getD_set (by omega), if_neg (by omega), e2 _ (by omega), hf _ (by omega), e1, h.zero _ (by omega)]
end NC
end Go.Proofs.YtnpeokgjfnobmaaDoor

