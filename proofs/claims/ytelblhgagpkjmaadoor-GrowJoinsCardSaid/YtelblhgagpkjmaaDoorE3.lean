/-
  Texts glued together for a claim: Z13 ZSg Q1 Q2 Q3 Q4 Q5.
-/
import Derived.Test.YtelblhgagpkjmaaDoorE2
import Derived.Test.YtelblhgagpkjmaaDoorE1
/-
  The reference's whole numbers: how often, and what is left (ZDiv).
-/
namespace Go.Proofs.YtelblhgagpkjmaaDoor
set_option linter.unusedVariables false
set_option linter.unusedSimpArgs false
open Go.RowKit
set_option linter.unusedVariables false
theorem Sl.drew {k : IntKind} {w : World} {s : Value} {L : List Int} (h : Sl k w s L) : Sl k w.drew s L := h
namespace ZC
open Z
/-- the memory of a division under way: the boxes of what was handed in and of the results; from g on: the box of the divisor without its sign, the quotient's digits, its box, the remainder's box -/
structure DM (w w1 wr : World) (g n : Nat) (xa xb vb vr : Array Value) (QL : List Int) : Prop where
  b0 : Blk wr w.heap.size 30 xa
  b1 : Blk wr (w.heap.size + 1) 30 xb
  b2 : Blk wr (w.heap.size + 2) 30 #[.bool false, .slice none 0 0]
  b3 : Blk wr (w.heap.size + 3) 30 #[.bool false, .slice none 0 0]
  bb : Blk wr g 30 vb
  bs : Row .i64 3 wr (g + 1) QL
  bq : Blk wr (g + 2) 30 #[.bool false, .slice (some ⟨g + 1, 0, none⟩) n n]
  br : Blk wr (g + 3) 30 vr
  hg : w.heap.size + 4 ≤ g
  lo : Below w.heap.size w wr
  bw : Below g w1 wr
section
variable {w w1 wr w' : World} {g n : Nat} {xa xb vb vr : Array Value} {QL : List Int}
theorem DM.sz (h : DM w w1 wr g n xa xb vb vr QL) : g + 4 ≤ wr.heap.size := h.br.lt
theorem DM.below (h : DM w w1 wr g n xa xb vb vr QL) (hb : Below wr.heap.size wr w') : DM w w1 w' g n xa xb vb vr QL :=
  ⟨h.b0.below hb h.b0.lt, h.b1.below hb h.b1.lt, h.b2.below hb h.b2.lt, h.b3.below hb h.b3.lt, h.bb.below hb h.bb.lt, Blk.below h.bs hb h.bs.lt, h.bq.below hb h.bq.lt, h.br.below hb h.br.lt, h.hg, h.lo.trans (hb.mono h.lo.size), h.bw.trans (hb.mono (by have := h.sz; omega))⟩
theorem DM.alloc (h : DM w w1 wr g n xa xb vb vr QL) (o : Obj) : DM w w1 (wr.alloc o) g n xa xb vb vr QL := h.below (below1 _ _)
theorem DM.drew (h : DM w w1 wr g n xa xb vb vr QL) : DM w w1 wr.drew g n xa xb vb vr QL := ⟨h.b0, h.b1, h.b2, h.b3, h.bb, h.bs, h.bq, h.br, h.hg, h.lo.drew, h.bw.drew⟩
theorem DM.drewN (h : DM w w1 wr g n xa xb vb vr QL) (q : Nat) : DM w w1 (wr.drewN q) g n xa xb vb vr QL := ⟨h.b0, h.b1, h.b2, h.b3, h.bb, h.bs, h.bq, h.br, h.hg, below_drewN h.lo q, below_drewN h.bw q⟩
end
theorem Sl.one (k : IntKind) (e : TypeId) (w : World) (z : Int) : Sl k (w.alloc (.cells #[.int k z] e)) (.slice (some ⟨w.heap.size, 0, none⟩) 1 1) [z] := by
  refine ⟨_, 1, rfl, by simp, .inr ⟨_, rfl, by simp, fun j hj => ?_⟩⟩
  obtain rfl : j = 0 := by simpa using hj
  have := Blk.at_ (Blk.new w e #[.int k z]) 0 rfl
  rw [show (⟨w.heap.size, 0, none⟩ : Addr).add 0 = ⟨w.heap.size, 0, none⟩ by unfold Addr.add; simp]
  exact this
theorem ZL.box {w1 : World} {b A n c z} (hv : ZL w1 b A n c z) {B : Nat} {b0 : Bool} {A0 : Option Addr} {n0 c0 : Nat} (h0 : w1.cell? ⟨B, 0, none⟩ = some (.bool b0)) (h1 : w1.cell? ⟨B, 1, none⟩ = some (.slice A0 n0 c0)) (u v : Value) :
    ZL ((w1.setCell ⟨B, 0, none⟩ u).setCell ⟨B, 1, none⟩ v) b A n c z :=
  (hv.setCell h0 (fun z h => by cases h) _).setCell (p := ⟨B, 1, none⟩) (u := .slice A0 n0 c0) (by rw [World.cell?_setCell_other _ _ _ _ (by simp)]; exact h1) (fun z h => by cases h) _
theorem big_mono {n m : Nat} (h : n ≤ m) : big n ≤ big m := by unfold big; exact Nat.pow_le_pow_right (by decide) h
theorem big3 : big 3 = 1000000000000 := by unfold big; decide
theorem ZLF.far {w : World} {B : Nat} {b A n c z} (h : ZLF w B b A n c z) {p : Addr} (hp : p.block < B) (u : Value) : ZL (w.setCell p u) b A n c z := by
  refine h.1.keep fun L hs => ?_
  obtain ⟨A', c', e, hc, hs⟩ := hs
  refine ⟨A', c', e, hc, ?_⟩
  rcases hs with rfl | ⟨ad, rfl, hb, hr⟩
  · exact .inl rfl
  · rcases h.2 with h0 | ⟨ad', e', hb'⟩
    · injection e with e1 e2
      exact .inl (List.eq_nil_of_length_eq_zero (by omega))
    · injection e with e1 e2
      rw [e'] at e1
      injection e1 with e1
      subst e1
      refine .inr ⟨_, rfl, by simpa [World.setCell] using hb, fun j hj => ?_⟩
      rw [World.cell?_setCell_far _ _ _ _ (by rw [block_of_add]; omega)]
      exact hr j hj
theorem ZL.zero {w : World} {b A n c z} (h : ZL w b A n c z) : (n = 0 → z = 0) ∧ (0 < n → z ≠ 0) := by
  obtain ⟨_, L, hn, _, hd, hz, hv⟩ := h
  constructor
  · intro h0
    obtain rfl := List.eq_nil_of_length_eq_zero (by omega : L.length = 0)
    simp [val] at hv; omega
  · intro h0
    have := val_pos hd hz (List.length_pos_iff.1 (by omega))
    omega
/-- the memory of a division near its end: the quotient's box holds whatever -/
structure TM (w w1 wr : World) (g : Nat) (xa xb vb vq vr : Array Value) : Prop where
  b0 : Blk wr w.heap.size 30 xa
  b1 : Blk wr (w.heap.size + 1) 30 xb
  b2 : Blk wr (w.heap.size + 2) 30 #[.bool false, .slice none 0 0]
  b3 : Blk wr (w.heap.size + 3) 30 #[.bool false, .slice none 0 0]
  bb : Blk wr g 30 vb
  bq : Blk wr (g + 2) 30 vq
  br : Blk wr (g + 3) 30 vr
  hg : w.heap.size + 4 ≤ g
  lo : Below w.heap.size w wr
  bw : Below g w1 wr
section
variable {w w1 wr w' : World} {g n : Nat} {xa xb vb vq vr : Array Value} {QL : List Int}
theorem TM.of (h : DM w w1 wr g n xa xb vb vr QL) : TM w w1 wr g xa xb vb #[.bool false, .slice (some ⟨g + 1, 0, none⟩) n n] vr := ⟨h.b0, h.b1, h.b2, h.b3, h.bb, h.bq, h.br, h.hg, h.lo, h.bw⟩
theorem TM.sz (h : TM w w1 wr g xa xb vb vq vr) : g + 4 ≤ wr.heap.size := h.br.lt
theorem TM.below (h : TM w w1 wr g xa xb vb vq vr) (hb : Below wr.heap.size wr w') : TM w w1 w' g xa xb vb vq vr :=
  ⟨h.b0.below hb h.b0.lt, h.b1.below hb h.b1.lt, h.b2.below hb h.b2.lt, h.b3.below hb h.b3.lt, h.bb.below hb h.bb.lt, h.bq.below hb h.bq.lt, h.br.below hb h.br.lt, h.hg, h.lo.trans (hb.mono h.lo.size), h.bw.trans (hb.mono (by have := h.sz; omega))⟩
theorem TM.drew (h : TM w w1 wr g xa xb vb vq vr) : TM w w1 wr.drew g xa xb vb vq vr := ⟨h.b0, h.b1, h.b2, h.b3, h.bb, h.bq, h.br, h.hg, h.lo.drew, h.bw.drew⟩
end
end ZC
end Go.Proofs.YtelblhgagpkjmaaDoor

/-
  The reference's whole numbers: the sign.
-/
namespace Go.Proofs.YtelblhgagpkjmaaDoor
set_option linter.unusedVariables false
set_option linter.unusedSimpArgs false
open Go.RowKit
set_option linter.unusedVariables false
namespace ZC
open Z
end ZC
end Go.Proofs.YtelblhgagpkjmaaDoor

/-
  The reference's numbers over a power of two: QMake.
-/
namespace Go.Proofs.YtelblhgagpkjmaaDoor
set_option linter.unusedVariables false
set_option linter.unusedSimpArgs false
open Go.RowKit
set_option linter.unusedVariables false
set_option linter.unusedSimpArgs false
namespace QC
open Z (Nz Tz cmpv big)
open ZC
/-- digits that lie in another block than the one written -/
def Off (g : Nat) (A : Option Addr) (n : Nat) : Prop := n = 0 ∨ ∃ ad, A = some ad ∧ ad.block ≠ g
theorem zl_far {w : World} {b A n c z} (h : ZL w b A n c z) {p : Addr} (hp : Off p.block A n) (x : Value) : ZL (w.setCell p x) b A n c z := by
  obtain ⟨hb, L, hn, ⟨A', c', e, hc, hr⟩, h2⟩ := h
  injection e with e1 e2 e3
  subst e1
  subst e3
  refine ⟨hb, L, hn, ⟨A, c, by rw [e2], hc, ?_⟩, h2⟩
  rcases hr with h0 | ⟨ad, rfl, hlt, hcell⟩
  · exact .inl h0
  · by_cases h0 : L = []
    · exact .inl h0
    · rcases hp with hp | ⟨ad', ea, hne⟩
      · exfalso; exact h0 (List.length_eq_zero_iff.1 (by rw [← hn]; exact hp))
      · injection ea with ea
        subst ea
        refine .inr ⟨ad, rfl, by simpa [World.setCell] using hlt, fun j hj => ?_⟩
        rw [World.cell?_setCell_other w p (ad.add j) x (by intro e; apply hne; rw [e, block_of_add])]
        exact hcell j hj
theorem off_new {B : Nat} {A : Option Addr} {n : Nat} (h : Fr B A n) {g : Nat} (hg : g < B) : Off g A n := by
  rcases h with h | ⟨ad, rfl, h⟩
  · exact .inl h
  · exact .inr ⟨ad, rfl, by omega⟩
/-- a number over 2^t in memory -/
def QV (w : World) (v : Value) (z t : Int) : Prop := ∃ b A n c, v = .agg #[.bool b, .slice A n c, .int .i64 t] ∧ ZL w b A n c z
def RetV (w : World) (z t : Int) (e : Ending) (w' : World) : Prop := ∃ b A n c, e = .returned (.agg #[.bool b, .slice A n c, .int .i64 t]) ∧ ZL w' b A n c z ∧ Below w.heap.size w w'
theorem set3 {w : World} {b A n c z} {g : Nat} (h : ZL w b A n c z) (hp : Off g A n) (v0 v1 v2 : Value) : ZL (((w.setCell ⟨g, 0, none⟩ v0).setCell ⟨g, 1, none⟩ v1).setCell ⟨g, 2, none⟩ v2) b A n c z :=
  zl_far (zl_far (zl_far h (p := ⟨g, 0, none⟩) hp v0) (p := ⟨g, 1, none⟩) hp v1) (p := ⟨g, 2, none⟩) hp v2
theorem below3q {w w1 : World} {B : Nat} (hb : Below w.heap.size w w1) (hB : w.heap.size ≤ B) (v0 v1 v2 : Value) : Below w.heap.size w (((w1.setCell ⟨B, 0, none⟩ v0).setCell ⟨B, 1, none⟩ v1).setCell ⟨B, 2, none⟩ v2) :=
  ((hb.setCell hB _).setCell hB _).setCell hB _
set_option maxRecDepth 100000 in
theorem QMake_up (va : Value) (a : Int) (k : Nat) (w : World) (ha : ZV w va a) (bA : a.natAbs < big 1000000) (hk : k ≤ 100000) : Calls Tryd.prog 39 #[va, .int .i64 k] w (RetV w (a * 2 ^ k) 0) := by
  obtain ⟨b, A, n, c, rfl, hv⟩ := ha
  have N := new2 w 30 32 #[.bool b, .slice A n c] #[.bool false, .slice none 0 0, .int .i64 0] 0
  obtain ⟨N1, N2, NS, D0⟩ := N
  rw [World.drewN_zero] at N1 N2 NS D0
  obtain ⟨W0, hW0⟩ : ∃ W0, (w.alloc (.cells #[.bool b, .slice A n c] 30)).alloc (.cells #[.bool false, .slice none 0 0, .int .i64 0] 32) = W0 := ⟨_, rfl⟩
  rw [hW0] at N1 N2 NS D0
  have KC : Hid (∀ W, Below W0.heap.size W0 W → W.cell? ⟨w.heap.size, 0, none⟩ = some (.bool b) ∧ W.cell? ⟨w.heap.size, 1, none⟩ = some (.slice A n c)) := fun W h => ⟨(N1.below h N1.lt).at_ 0 rfl, (N1.below h N1.lt).at_ 1 rfl⟩
  have KR : Hid (∀ W, Below W0.heap.size W0 W → Blk W (w.heap.size + 1) 32 #[.bool false, .slice none 0 0, .int .i64 0]) := fun W h => N2.below h N2.lt
  have VA : Hid (∀ W, Below W0.heap.size W0 W → ZV W (.agg #[.bool b, .slice A n c]) a) := fun W h => (((hv.below D0).below h)).v
  have PW : Hid (∀ W : World, Calls Tryd.prog 64 #[.int .i64 k] W (RetZ W (2 ^ k))) := fun W => by
    have := ZPow_c k (k : Int) W (by omega) (by simp) (by omega)
    simpa using this
  have MU : Hid (∀ (W : World) (u v : Value), ZV W u a → ZV W v (2 ^ k) → Calls Tryd.prog 44 #[u, v] W (RetZ W (a * 2 ^ k))) := fun W u v h1 h2 => ZMul_c u v _ _ W h1 h2 bA (pow2_big k (by omega))
  have HS : Hid (W0.heap.size = w.heap.size + 2) := NS
  have HW0 := Lib.hid hW0
  have D0 := Lib.hid D0
  generalize a * 2 ^ k = r at *
  generalize (2 : Int) ^ k = pk at *
  have hk0 : (0 : Int) ≤ k := by omega
  obtain ⟨K, hK⟩ : ∃ K : Int, (k : Int) = K := ⟨_, rfl⟩
  rw [hK] at PW hk0 ⊢
  clear N1 N2 NS hv bA hk hK hW0
  go_enter Tryd.func39, Tryd.ntmps39
  go_upto_region 2 with fail
  rw [HW0.out]
  have D : Below W0.heap.size W0 W0.drew := (Below.refl _ _).drew
  (refine wp_region_L (S := fun w' => w'.cell? ⟨w.heap.size, 0, none⟩ = some (.bool b) ∧ w'.cell? ⟨w.heap.size, 1, none⟩ = some (.slice A n c)) (nl := 1000000) (by kernel_rfl) ?_ (fun hHeld => ?_); focus (exact KC.out _ D))
  (refine wpAnyL_take (i := 0) (oi := _) (v := ?_) rfl (by kernel_rfl) (by kernel_rfl) (by kernel_rfl) (fun _ _ _ h => h) (Or.inl ⟨by first | rfl | kernel_rfl, ?hy26⟩) (by assumption) ?rs26; (case hy26 => (intro w hSw; (try dsimp only at hSw); go_simp; first | done | with_reducible rfl)); case' rs26 => (simp only [List.getElem_toArray, List.getElem_cons_zero, List.getElem_cons_succ, Act.put, List.setIfInBounds_toArray, List.set_cons_zero, List.set_cons_succ])); (refine wpAnyL_take (i := 1) (oi := _) (v := ?_) rfl (by kernel_rfl) (by kernel_rfl) (by kernel_rfl) (fun _ _ _ h => h) (Or.inl ⟨by first | rfl | kernel_rfl, ?hy27⟩) (by assumption) ?rs27; (case hy27 => (intro w hSw; (try dsimp only at hSw); go_simp; first | done | with_reducible rfl)); case' rs27 => (simp only [List.getElem_toArray, List.getElem_cons_zero, List.getElem_cons_succ, Act.put, List.setIfInBounds_toArray, List.set_cons_zero, List.set_cons_succ])); skip
  (refine wpAnyL_one (i := 2) (o := _) (by kernel_rfl) rfl (fun K hK => ?_); clear hHeld; simp only [List.getElem_toArray, List.getElem_cons_zero, List.getElem_cons_succ]; go_simp; (go_at_call 64; (with_reducible refine (PW.out _).mono ?_); rintro e w1 ⟨_, rfl, ⟨b1, A1, n1, c1, rfl, hp⟩, hb⟩; have D := D.trans (hb.mono D.size)); refine hK.out _ _ ?_ (fun hHeld => ?_); focus (intro _; exact KC.out _ D)); have hHeld := hHeld (by decide); clear hK K; (try simp only [Act.put, List.setIfInBounds_toArray, List.set_cons_zero, List.set_cons_succ])
  (refine wpAnyL_one (i := 3) (o := _) (by kernel_rfl) rfl (fun K hK => ?_); clear hHeld; simp only [List.getElem_toArray, List.getElem_cons_zero, List.getElem_cons_succ]; go_simp; (go_at_call 44; (with_reducible refine (MU.out _ _ _ (VA.out _ D) hp.v).mono ?_); rintro e w2 ⟨_, rfl, ⟨b2, A2, n2, c2, rfl, hr⟩, hb2⟩; have D1 := D.size; have D := D.trans (hb2.mono D.size)); refine hK.out _ _ ?_ (fun hHeld => ?_); focus (intro _; exact KC.out _ D)); have hHeld := hHeld (by decide); clear hK K; (try simp only [Act.put, List.setIfInBounds_toArray, List.set_cons_zero, List.set_cons_succ])
  (refine wpAnyL_take (i := 4) (oi := _) (v := ?_) rfl (by kernel_rfl) (by kernel_rfl) (by kernel_rfl) (fun _ _ _ h => h) (Or.inl ⟨by first | rfl | kernel_rfl, ?hy28⟩) (by assumption) ?rs28; (case hy28 => (intro w hSw; (try dsimp only at hSw); go_simp; first | done | with_reducible rfl)); case' rs28 => (simp only [List.getElem_toArray, List.getElem_cons_zero, List.getElem_cons_succ, Act.put, List.setIfInBounds_toArray, List.set_cons_zero, List.set_cons_succ])); skip
  have R := KR.out _ D
  have of := off_new hr.fr (g := w.heap.size + 1) (by have := HS.out; omega)
  have f0 := R.frozen 0; have f1 := R.frozen 1; have f2 := R.frozen 2; have t0 := R.at_ 0 rfl; have t1 := R.at_ 1 rfl; have t2 := R.at_ 2 rfl
  have X := Lib.hid (set3 hr.zl of (.bool b2) (.slice A2 n2 c2) (.int .i64 0))
  have hS := KC.out _ D
  have D := Lib.hid D
  (refine wpAnyL_one (i := 5) (o := _) (by kernel_rfl) rfl (fun K hK => ?_); clear hHeld; simp only [List.getElem_toArray, List.getElem_cons_zero, List.getElem_cons_succ]; go_simp; refine hK.out _ _ ?_ (fun hHeld => ?_); focus (intro _; (obtain ⟨s0, s1⟩ := KC.out _ D.out; refine ⟨?_, ?_⟩ <;> (repeat rw [World.cell?_setCell_other _ _ _ _ (by simp)]) <;> assumption))); have hHeld := hHeld (by decide); clear hK K; (try simp only [Act.put, List.setIfInBounds_toArray, List.set_cons_zero, List.set_cons_succ])
  refine wpAnyL_done (by kernel_rfl) ?_ _
  go_wp2
  exact bodyPost_ret (v := .agg #[.bool b2, .slice A2 n2 c2, .int .i64 0]) (by simp [results, Tryd.results39, go_sem, t0, t1, t2]) rfl
    ⟨_, _, _, _, rfl, X.out, below3q (D0.out.trans (D.out.mono D0.out.size)) (by omega) _ _ _⟩
end QC
end Go.Proofs.YtelblhgagpkjmaaDoor

/-
  The reference's numbers over a power of two: QMake, QMul, QShift.
-/
namespace Go.Proofs.YtelblhgagpkjmaaDoor
set_option linter.unusedVariables false
set_option linter.unusedSimpArgs false
open Go.RowKit
set_option linter.unusedVariables false
set_option linter.unusedSimpArgs false
namespace QC
open Z (Nz Tz cmpv big)
open ZC
theorem al2 (W : World) (o : Obj) : Below W.heap.size W (W.alloc o) := (Below.refl _ _).alloc (Nat.le_refl _) _
theorem QMake_dn (va : Value) (a e : Int) (w : World) (ha : ZV w va a) (h0 : e < 0) (h1 : -100000 ≤ e) : Calls Tryd.prog 39 #[va, .int .i64 e] w (RetV w a (-e)) := by
  obtain ⟨b, A, n, c, rfl, hv⟩ := ha
  have i1 : IntKind.i64.wrap (-e) = -e := IntWalk.i64_in _ (by omega)
  have h2 : ¬ 0 ≤ e := by omega
  have X := (hv.alloc (.cells #[.bool b, .slice A n c] 30)).alloc (.cells #[.bool b, .slice A n c, .int .i64 (-e)] 32)
  have D : Below w.heap.size w ((w.alloc (.cells #[.bool b, .slice A n c] 30)).alloc (.cells #[.bool b, .slice A n c, .int .i64 (-e)] 32)) := ((Below.refl _ _).alloc (Nat.le_refl _) _).alloc (by simp) _
  have X := Lib.hid X
  clear hv h0 h1
  go_enter Tryd.func39, Tryd.ntmps39
  go_wp2
  exact bodyPost_ret (v := .agg #[.bool b, .slice A n c, .int .i64 (-e)]) (by simp [results, Tryd.results39, go_sem]) rfl ⟨_, _, _, _, rfl, X.out, D⟩
/-- what QMake makes -/
def mkz (a e : Int) : Int := if 0 ≤ e then a * 2 ^ e.toNat else a
def mkt (e : Int) : Int := if 0 ≤ e then 0 else -e
theorem QMake_c (va : Value) (a e : Int) (w : World) (ha : ZV w va a) (bA : a.natAbs < big 1000000) (h1 : -100000 ≤ e) (h2 : e ≤ 100000) : Calls Tryd.prog 39 #[va, .int .i64 e] w (RetV w (mkz a e) (mkt e)) := by
  unfold mkz mkt
  by_cases h0 : 0 ≤ e
  · rw [if_pos h0, if_pos h0]
    obtain ⟨k, rfl⟩ := Int.eq_ofNat_of_zero_le h0
    exact QMake_up va a k w ha bA (by omega)
  · rw [if_neg h0, if_neg h0]
    exact QMake_dn va a e w ha (by omega) h1
/-- behind the box of a number over 2^t and the result's cell -/
theorem qbox1 (w : World) (b1 : Bool) (A1 : Option Addr) (n1 c1 : Nat) (t1 : Int) :
    ∃ W0, (w.alloc (.cells #[.bool b1, .slice A1 n1 c1, .int .i64 t1] 32)).alloc (.cells #[.bool false, .slice none 0 0, .int .i64 0] 32) = W0 ∧ Below w.heap.size w W0 ∧ W0.heap.size = w.heap.size + 2 ∧
    (∀ W, Below W0.heap.size W0 W → (W.cell? ⟨w.heap.size, 0, none⟩ = some (.bool b1) ∧ W.cell? ⟨w.heap.size, 1, none⟩ = some (.slice A1 n1 c1) ∧ W.cell? ⟨w.heap.size, 2, none⟩ = some (.int .i64 t1)) ∧ Blk W (w.heap.size + 1) 32 #[.bool false, .slice none 0 0, .int .i64 0]) := by
  obtain ⟨N1, N2, NS, NB⟩ := new2 w 32 32 #[.bool b1, .slice A1 n1 c1, .int .i64 t1] #[.bool false, .slice none 0 0, .int .i64 0] 0
  rw [World.drewN_zero] at N1 N2 NS NB
  exact ⟨_, rfl, NB, NS, fun W h => ⟨⟨(N1.below h N1.lt).at_ 0 rfl, (N1.below h N1.lt).at_ 1 rfl, (N1.below h N1.lt).at_ 2 rfl⟩, N2.below h N2.lt⟩⟩
theorem qbox2 (w : World) (b1 b2 : Bool) (A1 A2 : Option Addr) (n1 c1 n2 c2 : Nat) (t1 t2 : Int) :
    ∃ W0, ((w.alloc (.cells #[.bool b1, .slice A1 n1 c1, .int .i64 t1] 32)).alloc (.cells #[.bool b2, .slice A2 n2 c2, .int .i64 t2] 32)).alloc (.cells #[.bool false, .slice none 0 0, .int .i64 0] 32) = W0 ∧ Below w.heap.size w W0 ∧ W0.heap.size = w.heap.size + 3 ∧
    (∀ W, Below W0.heap.size W0 W → (W.cell? ⟨w.heap.size, 0, none⟩ = some (.bool b1) ∧ W.cell? ⟨w.heap.size, 1, none⟩ = some (.slice A1 n1 c1) ∧ W.cell? ⟨w.heap.size, 2, none⟩ = some (.int .i64 t1) ∧
      W.cell? ⟨w.heap.size + 1, 0, none⟩ = some (.bool b2) ∧ W.cell? ⟨w.heap.size + 1, 1, none⟩ = some (.slice A2 n2 c2) ∧ W.cell? ⟨w.heap.size + 1, 2, none⟩ = some (.int .i64 t2)) ∧ Blk W (w.heap.size + 2) 32 #[.bool false, .slice none 0 0, .int .i64 0]) := by
  obtain ⟨N1, N2, N3, NS, NB⟩ := new3 w 32 32 32 #[.bool b1, .slice A1 n1 c1, .int .i64 t1] #[.bool b2, .slice A2 n2 c2, .int .i64 t2] #[.bool false, .slice none 0 0, .int .i64 0] 0
  rw [World.drewN_zero] at N1 N2 N3 NS NB
  exact ⟨_, rfl, NB, NS, fun W h => ⟨⟨(N1.below h N1.lt).at_ 0 rfl, (N1.below h N1.lt).at_ 1 rfl, (N1.below h N1.lt).at_ 2 rfl, (N2.below h N2.lt).at_ 0 rfl, (N2.below h N2.lt).at_ 1 rfl, (N2.below h N2.lt).at_ 2 rfl⟩, N3.below h N3.lt⟩⟩
set_option maxRecDepth 100000 in
theorem QMul_c (va vb : Value) (a b ta tb : Int) (w : World) (ha : QV w va a ta) (hb : QV w vb b tb) (bA : a.natAbs < big 1000000) (bB : b.natAbs < big 1000000) (h1 : -1000000 ≤ ta ∧ ta ≤ 1000000) (h2 : -1000000 ≤ tb ∧ tb ≤ 1000000) :
    Calls Tryd.prog 16 #[va, vb] w (RetV w (a * b) (ta + tb)) := by
  obtain ⟨b1, A1, n1, c1, rfl, hv1⟩ := ha
  obtain ⟨b2, A2, n2, c2, rfl, hv2⟩ := hb
  obtain ⟨W0, hW0, D0, HS, KB⟩ := qbox2 w b1 b2 A1 A2 n1 c1 n2 c2 ta tb
  have VA : Hid (∀ W, Below W0.heap.size W0 W → ZV W (.agg #[.bool b1, .slice A1 n1 c1]) a ∧ ZV W (.agg #[.bool b2, .slice A2 n2 c2]) b) := fun W h => ⟨(((hv1.below D0).below h)).v, (((hv2.below D0).below h)).v⟩
  have MU : Hid (∀ (W : World) (u v : Value), ZV W u a → ZV W v b → Calls Tryd.prog 44 #[u, v] W (RetZ W (a * b))) := fun W u v h1 h2 => ZMul_c u v _ _ W h1 h2 bA bB
  have HS := Lib.hid HS
  have HW0 := Lib.hid hW0
  have D0 := Lib.hid D0
  have KB := Lib.hid KB
  have i1 : IntKind.i64.wrap (ta + tb) = ta + tb := IntWalk.i64_in _ (by omega)
  generalize a * b = r at *
  clear hv1 hv2 bA bB hW0 h1 h2
  go_enter Tryd.func16, Tryd.ntmps16
  go_upto_region 1 with fail
  rw [HW0.out]
  have D : Below W0.heap.size W0 W0.drew := (Below.refl _ _).drew
  (refine wp_region_L (S := fun w' => w'.cell? ⟨w.heap.size, 0, none⟩ = some (.bool b1) ∧ w'.cell? ⟨w.heap.size, 1, none⟩ = some (.slice A1 n1 c1) ∧ w'.cell? ⟨w.heap.size, 2, none⟩ = some (.int .i64 ta) ∧ w'.cell? ⟨w.heap.size + 1, 0, none⟩ = some (.bool b2) ∧ w'.cell? ⟨w.heap.size + 1, 1, none⟩ = some (.slice A2 n2 c2) ∧ w'.cell? ⟨w.heap.size + 1, 2, none⟩ = some (.int .i64 tb)) (nl := 1000000) (by kernel_rfl) ?_ (fun hHeld => ?_); focus (exact (KB.out _ D).1))
  (refine wpAnyL_take (i := 0) (oi := _) (v := ?_) rfl (by kernel_rfl) (by kernel_rfl) (by kernel_rfl) (fun _ _ _ h => h) (Or.inl ⟨by first | rfl | kernel_rfl, ?hy29⟩) (by assumption) ?rs29; (case hy29 => (intro w hSw; (try dsimp only at hSw); go_simp; first | done | with_reducible rfl)); case' rs29 => (simp only [List.getElem_toArray, List.getElem_cons_zero, List.getElem_cons_succ, Act.put, List.setIfInBounds_toArray, List.set_cons_zero, List.set_cons_succ])); (refine wpAnyL_take (i := 1) (oi := _) (v := ?_) rfl (by kernel_rfl) (by kernel_rfl) (by kernel_rfl) (fun _ _ _ h => h) (Or.inl ⟨by first | rfl | kernel_rfl, ?hy30⟩) (by assumption) ?rs30; (case hy30 => (intro w hSw; (try dsimp only at hSw); go_simp; first | done | with_reducible rfl)); case' rs30 => (simp only [List.getElem_toArray, List.getElem_cons_zero, List.getElem_cons_succ, Act.put, List.setIfInBounds_toArray, List.set_cons_zero, List.set_cons_succ])); (refine wpAnyL_take (i := 2) (oi := _) (v := ?_) rfl (by kernel_rfl) (by kernel_rfl) (by kernel_rfl) (fun _ _ _ h => h) (Or.inl ⟨by first | rfl | kernel_rfl, ?hy31⟩) (by assumption) ?rs31; (case hy31 => (intro w hSw; (try dsimp only at hSw); go_simp; first | done | with_reducible rfl)); case' rs31 => (simp only [List.getElem_toArray, List.getElem_cons_zero, List.getElem_cons_succ, Act.put, List.setIfInBounds_toArray, List.set_cons_zero, List.set_cons_succ])); (refine wpAnyL_take (i := 3) (oi := _) (v := ?_) rfl (by kernel_rfl) (by kernel_rfl) (by kernel_rfl) (fun _ _ _ h => h) (Or.inl ⟨by first | rfl | kernel_rfl, ?hy32⟩) (by assumption) ?rs32; (case hy32 => (intro w hSw; (try dsimp only at hSw); go_simp; first | done | with_reducible rfl)); case' rs32 => (simp only [List.getElem_toArray, List.getElem_cons_zero, List.getElem_cons_succ, Act.put, List.setIfInBounds_toArray, List.set_cons_zero, List.set_cons_succ])); (refine wpAnyL_take (i := 5) (oi := _) (v := ?_) rfl (by kernel_rfl) (by kernel_rfl) (by kernel_rfl) (fun _ _ _ h => h) (Or.inl ⟨by first | rfl | kernel_rfl, ?hy33⟩) (by assumption) ?rs33; (case hy33 => (intro w hSw; (try dsimp only at hSw); go_simp; first | done | with_reducible rfl)); case' rs33 => (simp only [List.getElem_toArray, List.getElem_cons_zero, List.getElem_cons_succ, Act.put, List.setIfInBounds_toArray, List.set_cons_zero, List.set_cons_succ])); (refine wpAnyL_take (i := 6) (oi := _) (v := ?_) rfl (by kernel_rfl) (by kernel_rfl) (by kernel_rfl) (fun _ _ _ h => h) (Or.inl ⟨by first | rfl | kernel_rfl, ?hy34⟩) (by assumption) ?rs34; (case hy34 => (intro w hSw; (try dsimp only at hSw); go_simp; first | done | with_reducible rfl)); case' rs34 => (simp only [List.getElem_toArray, List.getElem_cons_zero, List.getElem_cons_succ, Act.put, List.setIfInBounds_toArray, List.set_cons_zero, List.set_cons_succ])); (refine wpAnyL_take (i := 7) (oi := _) (v := ?_) rfl (by kernel_rfl) (by kernel_rfl) (by kernel_rfl) (fun _ _ _ h => h) (Or.inl ⟨by first | rfl | kernel_rfl, ?hy35⟩) (by assumption) ?rs35; (case hy35 => (intro w hSw; (try dsimp only at hSw); go_simp; first | done | with_reducible rfl)); case' rs35 => (simp only [List.getElem_toArray, List.getElem_cons_zero, List.getElem_cons_succ, Act.put, List.setIfInBounds_toArray, List.set_cons_zero, List.set_cons_succ])); (refine wpAnyL_take (i := 8) (oi := _) (v := ?_) rfl (by kernel_rfl) (by kernel_rfl) (by kernel_rfl) (fun _ _ _ h => h) (Or.inl ⟨by first | rfl | kernel_rfl, ?hy36⟩) (by assumption) ?rs36; (case hy36 => (intro w hSw; (try dsimp only at hSw); go_simp; first | done | with_reducible rfl)); case' rs36 => (simp only [List.getElem_toArray, List.getElem_cons_zero, List.getElem_cons_succ, Act.put, List.setIfInBounds_toArray, List.set_cons_zero, List.set_cons_succ])); (refine wpAnyL_take (i := 9) (oi := _) (v := ?_) rfl (by kernel_rfl) (by kernel_rfl) (by kernel_rfl) (fun _ _ _ h => h) (Or.inl ⟨by first | rfl | kernel_rfl, ?hy37⟩) (by assumption) ?rs37; (case hy37 => (intro w hSw; (try dsimp only at hSw); go_simp; first | done | with_reducible rfl)); case' rs37 => (simp only [List.getElem_toArray, List.getElem_cons_zero, List.getElem_cons_succ, Act.put, List.setIfInBounds_toArray, List.set_cons_zero, List.set_cons_succ])); skip
  (refine wpAnyL_one (i := 4) (o := _) (by kernel_rfl) rfl (fun K hK => ?_); clear hHeld; simp only [List.getElem_toArray, List.getElem_cons_zero, List.getElem_cons_succ]; go_simp; (go_at_call 44; (with_reducible refine (MU.out _ _ _ (VA.out _ D).1 (VA.out _ D).2).mono ?_); rintro e w2 ⟨_, rfl, ⟨b3, A3, n3, c3, rfl, hr⟩, hb2⟩; have D1 := D.size; have D := D.trans (hb2.mono D.size)); refine hK.out _ _ ?_ (fun hHeld => ?_); focus (intro _; exact (KB.out _ D).1)); have hHeld := hHeld (by decide); clear hK K; (try simp only [Act.put, List.setIfInBounds_toArray, List.set_cons_zero, List.set_cons_succ])
  (refine wpAnyL_take (i := 10) (oi := _) (v := ?_) rfl (by kernel_rfl) (by kernel_rfl) (by kernel_rfl) (fun _ _ _ h => h) (Or.inl ⟨by first | rfl | kernel_rfl, ?hy38⟩) (by assumption) ?rs38; (case hy38 => (intro w hSw; (try dsimp only at hSw); go_simp; first | done | with_reducible rfl)); case' rs38 => (simp only [List.getElem_toArray, List.getElem_cons_zero, List.getElem_cons_succ, Act.put, List.setIfInBounds_toArray, List.set_cons_zero, List.set_cons_succ])); skip
  have R := (KB.out _ D).2
  have of := off_new hr.fr (g := w.heap.size + 2) (by have := HS.out; omega)
  have f0 := R.frozen 0; have f1 := R.frozen 1; have f2 := R.frozen 2; have t0 := R.at_ 0 rfl; have t1 := R.at_ 1 rfl; have t2 := R.at_ 2 rfl
  have X := Lib.hid (set3 hr.zl of (.bool b3) (.slice A3 n3 c3) (.int .i64 (ta + tb)))
  have D := Lib.hid D
  (refine wpAnyL_one (i := 11) (o := _) (by kernel_rfl) rfl (fun K hK => ?_); clear hHeld; simp only [List.getElem_toArray, List.getElem_cons_zero, List.getElem_cons_succ]; go_simp; refine hK.out _ _ ?_ (fun hHeld => ?_); focus (intro _; (obtain ⟨s0, s1, s2, s3, s4, s5⟩ := (KB.out _ D.out).1; refine ⟨?_, ?_, ?_, ?_, ?_, ?_⟩ <;> (repeat rw [World.cell?_setCell_other _ _ _ _ (by simp)]) <;> assumption))); have hHeld := hHeld (by decide); clear hK K; (try simp only [Act.put, List.setIfInBounds_toArray, List.set_cons_zero, List.set_cons_succ])
  refine wpAnyL_done (by kernel_rfl) ?_ _
  go_wp2
  exact bodyPost_ret (v := .agg #[.bool b3, .slice A3 n3 c3, .int .i64 (ta + tb)]) (by simp [results, Tryd.results16, go_sem, t0, t1, t2]) rfl
    ⟨_, _, _, _, rfl, X.out, below3q (D0.out.trans (D.out.mono D0.out.size)) (by omega) _ _ _⟩
end QC
end Go.Proofs.YtelblhgagpkjmaaDoor

/-
  The reference's numbers over a power of two: level, its first steps.
-/
namespace Go.Proofs.YtelblhgagpkjmaaDoor
set_option linter.unusedVariables false
set_option linter.unusedSimpArgs false
open Go.RowKit
set_option linter.unusedVariables false
set_option linter.unusedSimpArgs false
namespace QC
open Z (Nz Tz cmpv big)
open ZC
/-- two whole numbers, each in its own new box -/
def LV (W0 wx : World) (s8 s9 : Value) (x y : Int) : Prop := ∃ g h bx Ax nx cx by' Ay ny cy, s8 = .pointer (some ⟨g, 0, none⟩) ∧ s9 = .pointer (some ⟨h, 0, none⟩) ∧ Blk wx g 30 #[.bool bx, .slice Ax nx cx] ∧ Blk wx h 30 #[.bool by', .slice Ay ny cy] ∧
  ZL wx bx Ax nx cx x ∧ ZL wx by' Ay ny cy y ∧ g ≠ h ∧ W0.heap.size ≤ g ∧ W0.heap.size ≤ h ∧ Below W0.heap.size W0 wx
theorem lv_set {we W : World} {g h : Nat} {bq br : Bool} {Aq Ar : Option Addr} {nq cq nr cr : Nat} {q r : Int} (D : Below we.heap.size we W) (hg : we.heap.size ≤ g) (hh : we.heap.size ≤ h) (hne : g ≠ h)
    (G : Blk W g 30 #[.bool false, .slice none 0 0]) (H : Blk W h 30 #[.bool false, .slice none 0 0]) (hq : ZL W bq Aq nq cq q) (hr : ZL W br Ar nr cr r) :
    LV we ((((W.setCell ⟨g, 0, none⟩ (.bool bq)).setCell ⟨g, 1, none⟩ (.slice Aq nq cq)).setCell ⟨h, 0, none⟩ (.bool br)).setCell ⟨h, 1, none⟩ (.slice Ar nr cr)) (.pointer (some ⟨g, 0, none⟩)) (.pointer (some ⟨h, 0, none⟩)) q r := by
  have G1 := G.set2 (.bool bq) (.slice Aq nq cq)
  have H1 := H.far2 (Ne.symm hne) (.bool bq) (.slice Aq nq cq)
  have q1 := ZC.ZL.box hq (G.at_ 0 rfl) (G.at_ 1 rfl) (.bool bq) (.slice Aq nq cq)
  have r1 := ZC.ZL.box hr (G.at_ 0 rfl) (G.at_ 1 rfl) (.bool bq) (.slice Aq nq cq)
  exact ⟨g, h, bq, Aq, nq, cq, br, Ar, nr, cr, rfl, rfl, G1.far2 hne _ _, H1.set2 _ _, ZC.ZL.box q1 (H1.at_ 0 rfl) (H1.at_ 1 rfl) _ _, ZC.ZL.box r1 (H1.at_ 0 rfl) (H1.at_ 1 rfl) _ _, hne, hg, hh, below_set2 (below_set2 D hg _ _) hh _ _⟩
/-- behind two boxes and the two cells of the result -/
theorem lbox (w : World) (b1 b2 : Bool) (A1 A2 : Option Addr) (n1 c1 n2 c2 : Nat) (t1 t2 : Int) :
    ∃ W0, (((w.alloc (.cells #[.bool b1, .slice A1 n1 c1, .int .i64 t1] 32)).alloc (.cells #[.bool b2, .slice A2 n2 c2, .int .i64 t2] 32)).alloc (.cells #[.bool false, .slice none 0 0] 30)).alloc (.cells #[.bool false, .slice none 0 0] 30) = W0 ∧ Below w.heap.size w W0 ∧ W0.heap.size = w.heap.size + 4 ∧
    (∀ W, Below W0.heap.size W0 W → (W.cell? ⟨w.heap.size, 0, none⟩ = some (.bool b1) ∧ W.cell? ⟨w.heap.size, 1, none⟩ = some (.slice A1 n1 c1) ∧ W.cell? ⟨w.heap.size, 2, none⟩ = some (.int .i64 t1) ∧
      W.cell? ⟨w.heap.size + 1, 0, none⟩ = some (.bool b2) ∧ W.cell? ⟨w.heap.size + 1, 1, none⟩ = some (.slice A2 n2 c2) ∧ W.cell? ⟨w.heap.size + 1, 2, none⟩ = some (.int .i64 t2)) ∧
      Blk W (w.heap.size + 2) 30 #[.bool false, .slice none 0 0] ∧ Blk W (w.heap.size + 3) 30 #[.bool false, .slice none 0 0]) := by
  obtain ⟨N1, N2, N3, NS, NB⟩ := new3 w 32 32 30 #[.bool b1, .slice A1 n1 c1, .int .i64 t1] #[.bool b2, .slice A2 n2 c2, .int .i64 t2] #[.bool false, .slice none 0 0] 0
  rw [World.drewN_zero] at N1 N2 N3 NS NB
  generalize ((w.alloc (.cells #[.bool b1, .slice A1 n1 c1, .int .i64 t1] 32)).alloc (.cells #[.bool b2, .slice A2 n2 c2, .int .i64 t2] 32)).alloc (.cells #[.bool false, .slice none 0 0] 30) = W3 at *
  have N1 := N1.alloc (.cells #[.bool false, .slice none 0 0] 30)
  have N2 := N2.alloc (.cells #[.bool false, .slice none 0 0] 30)
  have N3 := N3.alloc (.cells #[.bool false, .slice none 0 0] 30)
  have N4 := Blk.new W3 30 #[.bool false, .slice none 0 0]
  rw [NS] at N4
  refine ⟨_, rfl, NB.alloc (by omega) _, by simp [NS], fun W h => ⟨⟨(N1.below h N1.lt).at_ 0 rfl, (N1.below h N1.lt).at_ 1 rfl, (N1.below h N1.lt).at_ 2 rfl, (N2.below h N2.lt).at_ 0 rfl, (N2.below h N2.lt).at_ 1 rfl, (N2.below h N2.lt).at_ 2 rfl⟩, N3.below h N3.lt, N4.below h N4.lt⟩⟩
theorem big_mono {m n : Nat} (h : m ≤ n) : big m ≤ big n := by unfold big; exact Nat.pow_le_pow_right (by omega) h
theorem big_lt {a : Int} (h : a.natAbs < big 500000) : a.natAbs < big 1000000 := Nat.lt_of_lt_of_le h (big_mono (by omega))
def RetLv (w : World) (x y t : Int) (e : Ending) (w' : World) : Prop := ∃ bx Ax nx cx by' Ay ny cy, e = .returned (.tuple #[.agg #[.bool bx, .slice Ax nx cx], .agg #[.bool by', .slice Ay ny cy], .int .i64 t]) ∧ ZL w' bx Ax nx cx x ∧ ZL w' by' Ay ny cy y ∧ Below w.heap.size w w'
set_option maxRecDepth 100000 in
set_option maxHeartbeats 4000000 in
theorem level_c (va vb : Value) (a b ta tb : Int) (w : World) (ha : QV w va a ta) (hb : QV w vb b tb) (bA : a.natAbs < big 500000) (bB : b.natAbs < big 500000) (h1 : 0 ≤ ta ∧ ta ≤ 100000) (h2 : 0 ≤ tb ∧ tb ≤ 100000) :
    Calls Tryd.prog 41 #[va, vb] w (RetLv w (a * 2 ^ (max ta tb - ta).toNat) (b * 2 ^ (max ta tb - tb).toNat) (max ta tb)) := by
  obtain ⟨b1, A1, n1, c1, rfl, hv1⟩ := ha
  obtain ⟨b2, A2, n2, c2, rfl, hv2⟩ := hb
  obtain ⟨W0, hW0, D0, HS, KB⟩ := lbox w b1 b2 A1 A2 n1 c1 n2 c2 ta tb
  have VA : Hid (∀ W, Below W0.heap.size W0 W → ZL W b1 A1 n1 c1 a ∧ ZL W b2 A2 n2 c2 b) := fun W h => ⟨(hv1.below D0).below h, (hv2.below D0).below h⟩
  have HS2 := Lib.hid HS
  clear HS
  have HW0 := Lib.hid hW0
  have D0 := Lib.hid D0
  have KB := Lib.hid KB
  clear hv1 hv2 hW0
  go_enter Tryd.func41, Tryd.ntmps41
  go_upto_region 2 with fail
  rw [HW0.out]
  generalize hT : (if ta < tb then tb else ta) = T
  have HT := Lib.hid hT
  clear hT
  go_cut [8, 9] (fun s8 s9 wx => LV W0 wx s8 s9 a b)
  case first =>
    have D : Below W0.heap.size W0 W0.drew := (Below.refl _ _).drew
    (refine wp_region_L (S := fun w' => w'.cell? ⟨w.heap.size, 0, none⟩ = some (.bool b1) ∧ w'.cell? ⟨w.heap.size, 1, none⟩ = some (.slice A1 n1 c1) ∧ w'.cell? ⟨w.heap.size, 2, none⟩ = some (.int .i64 ta) ∧ w'.cell? ⟨w.heap.size + 1, 0, none⟩ = some (.bool b2) ∧ w'.cell? ⟨w.heap.size + 1, 1, none⟩ = some (.slice A2 n2 c2) ∧ w'.cell? ⟨w.heap.size + 1, 2, none⟩ = some (.int .i64 tb)) (nl := 1000000) (by kernel_rfl) ?_ (fun hHeld => ?_); focus (exact (KB.out _ D).1))
    (refine wpAnyL_take (i := 0) (oi := _) (v := ?_) rfl (by kernel_rfl) (by kernel_rfl) (by kernel_rfl) (fun _ _ _ h => h) (Or.inl ⟨by first | rfl | kernel_rfl, ?hy39⟩) (by assumption) ?rs39; (case hy39 => (intro w hSw; (try dsimp only at hSw); go_simp; first | done | with_reducible rfl)); case' rs39 => (simp only [List.getElem_toArray, List.getElem_cons_zero, List.getElem_cons_succ, Act.put, List.setIfInBounds_toArray, List.set_cons_zero, List.set_cons_succ])); (refine wpAnyL_take (i := 1) (oi := _) (v := ?_) rfl (by kernel_rfl) (by kernel_rfl) (by kernel_rfl) (fun _ _ _ h => h) (Or.inl ⟨by first | rfl | kernel_rfl, ?hy40⟩) (by assumption) ?rs40; (case hy40 => (intro w hSw; (try dsimp only at hSw); go_simp; first | done | with_reducible rfl)); case' rs40 => (simp only [List.getElem_toArray, List.getElem_cons_zero, List.getElem_cons_succ, Act.put, List.setIfInBounds_toArray, List.set_cons_zero, List.set_cons_succ])); (refine wpAnyL_take (i := 2) (oi := _) (v := ?_) rfl (by kernel_rfl) (by kernel_rfl) (by kernel_rfl) (fun _ _ _ h => h) (Or.inl ⟨by first | rfl | kernel_rfl, ?hy41⟩) (by assumption) ?rs41; (case hy41 => (intro w hSw; (try dsimp only at hSw); go_simp; first | done | with_reducible rfl)); case' rs41 => (simp only [List.getElem_toArray, List.getElem_cons_zero, List.getElem_cons_succ, Act.put, List.setIfInBounds_toArray, List.set_cons_zero, List.set_cons_succ])); (refine wpAnyL_take (i := 3) (oi := _) (v := ?_) rfl (by kernel_rfl) (by kernel_rfl) (by kernel_rfl) (fun _ _ _ h => h) (Or.inl ⟨by first | rfl | kernel_rfl, ?hy42⟩) (by assumption) ?rs42; (case hy42 => (intro w hSw; (try dsimp only at hSw); go_simp; first | done | with_reducible rfl)); case' rs42 => (simp only [List.getElem_toArray, List.getElem_cons_zero, List.getElem_cons_succ, Act.put, List.setIfInBounds_toArray, List.set_cons_zero, List.set_cons_succ])); skip
    refine wpAnyL_two (i := 4) (j := 5) (oi := _) (oj := _) (by kernel_rfl) rfl rfl (fun K hK => ?_) (fun K hK => ?_)
    · as_aux_lemma =>
        (clear hHeld; simp only [List.getElem_toArray, List.getElem_cons_zero, List.getElem_cons_succ]; go_simp; refine hK.out _ _ ?_ (fun hHeld => ?_); focus (intro _; exact (KB.out _ (D.alloc D.size _)).1)); have hHeld := hHeld (by decide); clear hK K; (try simp only [Act.put, List.setIfInBounds_toArray, List.set_cons_zero, List.set_cons_succ])
        have G' := Blk.drew (Blk.new W0 30 #[.bool false, .slice none 0 0])
        have Gn : W0.heap.size ≤ W0.heap.size := Nat.le_refl _
        have D1 : Below W0.heap.size W0 ((W0.alloc (.cells #[.bool false, .slice none 0 0] 30)).drew) := D.alloc D.size (.cells #[.bool false, .slice none 0 0] 30)
        clear D
        have D := D1
        clear D1
        obtain ⟨w4, hw4⟩ : ∃ w4, (W0.alloc (.cells #[.bool false, .slice none 0 0] 30)).drew = w4 := ⟨_, rfl⟩
        obtain ⟨Gg, hGg⟩ : ∃ Gg, W0.heap.size = Gg := ⟨_, rfl⟩
        rw [hw4] at G' D hHeld ⊢
        rw [hGg] at G' ⊢
        have Gn : W0.heap.size ≤ Gg := by rw [← hGg]; exact Gn
        have G := G'
        clear G' hw4 hGg
        (refine wpAnyL_one (i := 5) (o := _) (by kernel_rfl) rfl (fun K hK => ?_); clear hHeld; simp only [List.getElem_toArray, List.getElem_cons_zero, List.getElem_cons_succ]; go_simp; refine hK.out _ _ ?_ (fun hHeld => ?_); focus (intro _; exact (KB.out _ (D.alloc D.size _)).1)); have hHeld := hHeld (by decide); clear hK K; (try simp only [Act.put, List.setIfInBounds_toArray, List.set_cons_zero, List.set_cons_succ])
        have H' := Blk.new w4 30 #[.bool false, .slice none 0 0]
        have Hn : W0.heap.size ≤ w4.heap.size := D.size
        have hne : Gg ≠ w4.heap.size := Nat.ne_of_lt G.lt
        have G := G.alloc (.cells #[.bool false, .slice none 0 0] 30)
        have D1 : Below W0.heap.size W0 (w4.alloc (.cells #[.bool false, .slice none 0 0] 30)) := D.alloc D.size (.cells #[.bool false, .slice none 0 0] 30)
        clear D
        have D := D1
        clear D1
        obtain ⟨w5, hw5⟩ : ∃ w5, w4.alloc (.cells #[.bool false, .slice none 0 0] 30) = w5 := ⟨_, rfl⟩
        obtain ⟨Hg, hHg⟩ : ∃ Hg, w4.heap.size = Hg := ⟨_, rfl⟩
        rw [hw5] at H' D G hHeld ⊢
        rw [hHg] at H' hne ⊢
        have Hn : W0.heap.size ≤ Hg := by rw [← hHg]; exact Hn
        have H := H'
        clear H' hw5 hHg
        obtain ⟨hq, hr⟩ := VA.out _ D
        have X := Lib.hid (lv_set D Gn Hn hne G H hq hr)
        have D10 := below_set2 D Gn (.bool b1) (.slice A1 n1 c1)
        have D11 := below_set2 D10 Hn (.bool b2) (.slice A2 n2 c2)
        have H1 := H.far2 (hne).symm (.bool b1) (.slice A1 n1 c1)
        have g0 := G.at_ 0 rfl; have g1 := G.at_ 1 rfl; have f0 := G.frozen 0; have f1 := G.frozen 1; have h0 := H1.at_ 0 rfl; have h1 := H1.at_ 1 rfl; have f2 := H1.frozen 0; have f3 := H1.frozen 1
        have D10 := Lib.hid D10; have D11 := Lib.hid D11
        clear G H H1 D hq hr
        (refine wpAnyL_one (i := 6) (o := _) (by kernel_rfl) rfl (fun K hK => ?_); clear hHeld; simp only [List.getElem_toArray, List.getElem_cons_zero, List.getElem_cons_succ]; go_simp; refine hK.out _ _ ?_ (fun hHeld => ?_); focus (intro _; exact (KB.out _ D10.out).1)); have hHeld := hHeld (by decide); clear hK K; (try simp only [Act.put, List.setIfInBounds_toArray, List.set_cons_zero, List.set_cons_succ])
        (refine wpAnyL_one (i := 7) (o := _) (by kernel_rfl) rfl (fun K hK => ?_); clear hHeld; simp only [List.getElem_toArray, List.getElem_cons_zero, List.getElem_cons_succ]; go_simp; refine hK.out _ _ ?_ (fun hHeld => ?_); focus (intro _; exact (KB.out _ D11.out).1)); have hHeld := hHeld (by decide); clear hK K; (try simp only [Act.put, List.setIfInBounds_toArray, List.set_cons_zero, List.set_cons_succ])
        refine wpAnyL_done (by kernel_rfl) ?_ _
        go_wp2
        go_meet
        exact X.out
    · as_aux_lemma =>
        (clear hHeld; simp only [List.getElem_toArray, List.getElem_cons_zero, List.getElem_cons_succ]; go_simp; refine hK.out _ _ ?_ (fun hHeld => ?_); focus (intro _; exact (KB.out _ (D.alloc D.size _)).1)); have hHeld := hHeld (by decide); clear hK K; (try simp only [Act.put, List.setIfInBounds_toArray, List.set_cons_zero, List.set_cons_succ])
        have H' := Blk.drew (Blk.new W0 30 #[.bool false, .slice none 0 0])
        have Hn : W0.heap.size ≤ W0.heap.size := Nat.le_refl _
        have D1 : Below W0.heap.size W0 ((W0.alloc (.cells #[.bool false, .slice none 0 0] 30)).drew) := D.alloc D.size (.cells #[.bool false, .slice none 0 0] 30)
        clear D
        have D := D1
        clear D1
        obtain ⟨w5, hw5⟩ : ∃ w5, (W0.alloc (.cells #[.bool false, .slice none 0 0] 30)).drew = w5 := ⟨_, rfl⟩
        obtain ⟨Hg, hHg⟩ : ∃ Hg, W0.heap.size = Hg := ⟨_, rfl⟩
        rw [hw5] at H' D hHeld ⊢
        rw [hHg] at H' ⊢
        have Hn : W0.heap.size ≤ Hg := by rw [← hHg]; exact Hn
        have H := H'
        clear H' hw5 hHg
        (refine wpAnyL_one (i := 4) (o := _) (by kernel_rfl) rfl (fun K hK => ?_); clear hHeld; simp only [List.getElem_toArray, List.getElem_cons_zero, List.getElem_cons_succ]; go_simp; refine hK.out _ _ ?_ (fun hHeld => ?_); focus (intro _; exact (KB.out _ (D.alloc D.size _)).1)); have hHeld := hHeld (by decide); clear hK K; (try simp only [Act.put, List.setIfInBounds_toArray, List.set_cons_zero, List.set_cons_succ])
        have G' := Blk.new w5 30 #[.bool false, .slice none 0 0]
        have Gn : W0.heap.size ≤ w5.heap.size := D.size
        have hne : Hg ≠ w5.heap.size := Nat.ne_of_lt H.lt
        have H := H.alloc (.cells #[.bool false, .slice none 0 0] 30)
        have D1 : Below W0.heap.size W0 (w5.alloc (.cells #[.bool false, .slice none 0 0] 30)) := D.alloc D.size (.cells #[.bool false, .slice none 0 0] 30)
        clear D
        have D := D1
        clear D1
        obtain ⟨w4, hw4⟩ : ∃ w4, w5.alloc (.cells #[.bool false, .slice none 0 0] 30) = w4 := ⟨_, rfl⟩
        obtain ⟨Gg, hGg⟩ : ∃ Gg, w5.heap.size = Gg := ⟨_, rfl⟩
        rw [hw4] at G' D H hHeld ⊢
        rw [hGg] at G' hne ⊢
        have Gn : W0.heap.size ≤ Gg := by rw [← hGg]; exact Gn
        have G := G'
        clear G' hw4 hGg
        obtain ⟨hq, hr⟩ := VA.out _ D
        have X := Lib.hid (lv_set D Gn Hn hne.symm G H hq hr)
        have D10 := below_set2 D Gn (.bool b1) (.slice A1 n1 c1)
        have D11 := below_set2 D10 Hn (.bool b2) (.slice A2 n2 c2)
        have H1 := H.far2 (hne.symm).symm (.bool b1) (.slice A1 n1 c1)
        have g0 := G.at_ 0 rfl; have g1 := G.at_ 1 rfl; have f0 := G.frozen 0; have f1 := G.frozen 1; have h0 := H1.at_ 0 rfl; have h1 := H1.at_ 1 rfl; have f2 := H1.frozen 0; have f3 := H1.frozen 1
        have D10 := Lib.hid D10; have D11 := Lib.hid D11
        clear G H H1 D hq hr
        (refine wpAnyL_one (i := 6) (o := _) (by kernel_rfl) rfl (fun K hK => ?_); clear hHeld; simp only [List.getElem_toArray, List.getElem_cons_zero, List.getElem_cons_succ]; go_simp; refine hK.out _ _ ?_ (fun hHeld => ?_); focus (intro _; exact (KB.out _ D10.out).1)); have hHeld := hHeld (by decide); clear hK K; (try simp only [Act.put, List.setIfInBounds_toArray, List.set_cons_zero, List.set_cons_succ])
        (refine wpAnyL_one (i := 7) (o := _) (by kernel_rfl) rfl (fun K hK => ?_); clear hHeld; simp only [List.getElem_toArray, List.getElem_cons_zero, List.getElem_cons_succ]; go_simp; refine hK.out _ _ ?_ (fun hHeld => ?_); focus (intro _; exact (KB.out _ D11.out).1)); have hHeld := hHeld (by decide); clear hK K; (try simp only [Act.put, List.setIfInBounds_toArray, List.set_cons_zero, List.set_cons_succ])
        refine wpAnyL_done (by kernel_rfl) ?_ _
        go_wp2
        go_meet
        exact X.out
  case rest =>
    obtain ⟨g, h, bx, Ax, nx, cx, by', Ay, ny, cy, rfl, rfl, hG, hH, hq, hr, hne, hg, hh, hD⟩ := hcut
    have D := hD
    obtain ⟨⟨p0, p1, p2, q0, q1, q2⟩, -, -⟩ := KB.out _ D
    have g0 := hG.at_ 0 rfl; have g1 := hG.at_ 1 rfl; have h0 := hH.at_ 0 rfl; have h1 := hH.at_ 1 rfl
    by_cases k1 : ta < T
    · have k2 : ¬ tb < T := by have := HT.out; split at this <;> omega
      as_aux_lemma =>
        have i1 : IntKind.i64.wrap (T - ta) = T - ta := IntWalk.i64_in _ (by have := HT.out; split at this <;> omega)
        obtain ⟨k, hk⟩ : ∃ k : Nat, T - ta = k := ⟨(T - ta).toNat, by omega⟩
        have kb : k ≤ 100000 := by have := HT.out; split at this <;> omega
        have PW : Hid (∀ W : World, Calls Tryd.prog 64 #[.int .i64 (T - ta)] W (RetZ W (2 ^ k))) := fun W => by
          rw [hk]
          have := ZPow_c k (k : Int) W (by omega) (by simp) (by omega)
          simpa using this
        have MU : Hid (∀ (W : World) (u v : Value), ZV W u a → ZV W v (2 ^ k) → Calls Tryd.prog 44 #[u, v] W (RetZ W (a * 2 ^ k))) := fun W u v h1 h2 => ZMul_c u v _ _ W h1 h2 (big_lt bA) (pow2_big k (by omega))
        have HK := Lib.hid hk
        clear hk kb
        go_upto_region 4 with fail
        have D := D.drew; have hG := hG.drew; have hH := hH.drew; have hq := hq.drew; have hr := hr.drew
        (refine wp_region_L (S := fun w' => w'.cell? ⟨w.heap.size, 2, none⟩ = some (.int .i64 ta) ∧ w'.cell? ⟨g, 0, none⟩ = some (.bool bx) ∧ w'.cell? ⟨g, 1, none⟩ = some (.slice Ax nx cx)) (nl := 7) (by kernel_rfl) ?_ (fun hHeld => ?_); focus (exact ⟨(KB.out _ D).1.2.2.1, hG.at_ 0 rfl, hG.at_ 1 rfl⟩))
        (refine wpAnyL_take (i := 0) (oi := _) (v := ?_) rfl (by kernel_rfl) (by kernel_rfl) (by kernel_rfl) (fun _ _ _ h => h) (Or.inl ⟨by first | rfl | kernel_rfl, ?hy43⟩) (by assumption) ?rs43; (case hy43 => (intro w hSw; (try dsimp only at hSw); go_simp; first | done | with_reducible rfl)); case' rs43 => (simp only [List.getElem_toArray, List.getElem_cons_zero, List.getElem_cons_succ, Act.put, List.setIfInBounds_toArray, List.set_cons_zero, List.set_cons_succ])); (refine wpAnyL_take (i := 1) (oi := _) (v := ?_) rfl (by kernel_rfl) (by kernel_rfl) (by kernel_rfl) (fun _ _ _ h => h) (Or.inl ⟨by first | rfl | kernel_rfl, ?hy44⟩) (by assumption) ?rs44; (case hy44 => (intro w hSw; (try dsimp only at hSw); go_simp; first | done | with_reducible rfl)); case' rs44 => (simp only [List.getElem_toArray, List.getElem_cons_zero, List.getElem_cons_succ, Act.put, List.setIfInBounds_toArray, List.set_cons_zero, List.set_cons_succ])); (refine wpAnyL_take (i := 2) (oi := _) (v := ?_) rfl (by kernel_rfl) (by kernel_rfl) (by kernel_rfl) (fun _ _ _ h => h) (Or.inl ⟨by first | rfl | kernel_rfl, ?hy45⟩) (by assumption) ?rs45; (case hy45 => (intro w hSw; (try dsimp only at hSw); go_simp; first | done | with_reducible rfl)); case' rs45 => (simp only [List.getElem_toArray, List.getElem_cons_zero, List.getElem_cons_succ, Act.put, List.setIfInBounds_toArray, List.set_cons_zero, List.set_cons_succ])); (refine wpAnyL_take (i := 3) (oi := _) (v := ?_) rfl (by kernel_rfl) (by kernel_rfl) (by kernel_rfl) (fun _ _ _ h => h) (Or.inl ⟨by first | rfl | kernel_rfl, ?hy46⟩) (by assumption) ?rs46; (case hy46 => (intro w hSw; (try dsimp only at hSw); go_simp; first | done | with_reducible rfl)); case' rs46 => (simp only [List.getElem_toArray, List.getElem_cons_zero, List.getElem_cons_succ, Act.put, List.setIfInBounds_toArray, List.set_cons_zero, List.set_cons_succ])); (refine wpAnyL_take (i := 4) (oi := _) (v := ?_) rfl (by kernel_rfl) (by kernel_rfl) (by kernel_rfl) (fun _ _ _ h => h) (Or.inl ⟨by first | rfl | kernel_rfl, ?hy47⟩) (by assumption) ?rs47; (case hy47 => (intro w hSw; (try dsimp only at hSw); go_simp; first | done | with_reducible rfl)); case' rs47 => (simp only [List.getElem_toArray, List.getElem_cons_zero, List.getElem_cons_succ, Act.put, List.setIfInBounds_toArray, List.set_cons_zero, List.set_cons_succ])); skip
        (refine wpAnyL_one (i := 5) (o := _) (by kernel_rfl) rfl (fun K hK => ?_); clear hHeld; simp only [List.getElem_toArray, List.getElem_cons_zero, List.getElem_cons_succ]; go_simp; (go_at_call 64; (with_reducible refine (PW.out _).mono ?_); rintro e w1 ⟨_, rfl, ⟨bp, Ap, np, cp, rfl, hp⟩, hb3⟩; have D := D.trans (hb3.mono D.size); have hG := hG.below hb3 hG.lt; have hH := hH.below hb3 hH.lt; have hq := hq.below hb3; have hr := hr.below hb3); refine hK.out _ _ ?_ (fun hHeld => ?_); focus (intro _; exact ⟨(KB.out _ D).1.2.2.1, hG.at_ 0 rfl, hG.at_ 1 rfl⟩)); have hHeld := hHeld (by decide); clear hK K; (try simp only [Act.put, List.setIfInBounds_toArray, List.set_cons_zero, List.set_cons_succ])
        (refine wpAnyL_one (i := 6) (o := _) (by kernel_rfl) rfl (fun K hK => ?_); clear hHeld; simp only [List.getElem_toArray, List.getElem_cons_zero, List.getElem_cons_succ]; go_simp; (go_at_call 44; (with_reducible refine (MU.out _ _ _ hq.v hp.zl.v).mono ?_); rintro e w2 ⟨_, rfl, ⟨bp, Ap, np, cp, rfl, hp⟩, hb3⟩; have D := D.trans (hb3.mono D.size); have hG := hG.below hb3 hG.lt; have hH := hH.below hb3 hH.lt; have hq := hq.below hb3; have hr := hr.below hb3); refine hK.out _ _ ?_ (fun hHeld => ?_); focus (intro _; exact ⟨(KB.out _ D).1.2.2.1, hG.at_ 0 rfl, hG.at_ 1 rfl⟩)); have hHeld := hHeld (by decide); clear hK K; (try simp only [Act.put, List.setIfInBounds_toArray, List.set_cons_zero, List.set_cons_succ])
        have hz := ZC.ZL.box hp.zl (hG.at_ 0 rfl) (hG.at_ 1 rfl) (.bool bp) (.slice Ap np cp)
        have ho := ZC.ZL.box hr (hG.at_ 0 rfl) (hG.at_ 1 rfl) (.bool bp) (.slice Ap np cp)
        have h2' := hG.set2 (.bool bp) (.slice Ap np cp)
        have h3' := hH.far2 (hne).symm (.bool bp) (.slice Ap np cp)
        have D2 := below_set2 D hg (.bool bp) (.slice Ap np cp)
        have f0 := hG.frozen 0; have f1 := hG.frozen 1; have t0 := hG.at_ 0 rfl; have t1 := hG.at_ 1 rfl
        clear hq hr hp hG hH D
        (refine wpAnyL_one (i := 7) (o := _) (by kernel_rfl) rfl (fun K hK => ?_); clear hHeld; simp only [List.getElem_toArray, List.getElem_cons_zero, List.getElem_cons_succ]; go_simp; refine hK.out _ _ ?_ (fun hHeld => ?_); focus (intro h; exact absurd h (by decide))); clear hK K; (try simp only [Act.put, List.setIfInBounds_toArray, List.set_cons_zero, List.set_cons_succ])
        refine wpAnyL_done (by kernel_rfl) ?_ _
        obtain ⟨w3, hw3⟩ : ∃ w3, ((w2.setCell ⟨g, 0, none⟩ (.bool bp)).setCell ⟨g, 1, none⟩ (.slice Ap np cp)) = w3 := ⟨_, rfl⟩
        rw [hw3] at D2 h2' h3' hz ho ⊢
        clear hw3
        have D := D2; have hG := h2'; have hH := h3'; have hq := hz; have hr := ho
        clear D2 h2' h3' hz ho f0 f1 t0 t1
        obtain ⟨⟨p0, p1, p2, q0, q1, q2⟩, -, -⟩ := KB.out _ D
        have g0 := hG.at_ 0 rfl; have g1 := hG.at_ 1 rfl; have h0 := hH.at_ 0 rfl; have h1 := hH.at_ 1 rfl
        go_upto_region 7 with fail
        obtain ⟨-, R0, R1⟩ := KB.out _ D
        have R0 := (show Blk _ (w.heap.size + 1 + 1) 30 #[.bool false, .slice none 0 0] from R0)
        have R1 := (show Blk _ (w.heap.size + 1 + 1 + 1) 30 #[.bool false, .slice none 0 0] from R1)
        have eg : g ≠ w.heap.size + 1 + 1 := by have := HS2.out; omega
        have eh : h ≠ w.heap.size + 1 + 1 := by have := HS2.out; omega
        have eg3 : g ≠ w.heap.size + 1 + 1 + 1 := by have := HS2.out; omega
        have eh3 : h ≠ w.heap.size + 1 + 1 + 1 := by have := HS2.out; omega
        have G1 := hG.far2 eg (.bool bp) (.slice Ap np cp); have H1 := hH.far2 eh (.bool bp) (.slice Ap np cp); have R1' := R1.far2 (show w.heap.size + 1 + 1 + 1 ≠ w.heap.size + 1 + 1 by omega) (.bool bp) (.slice Ap np cp)
        have G2 := G1.far2 eg3 (.bool by') (.slice Ay ny cy); have H2 := H1.far2 eh3 (.bool by') (.slice Ay ny cy)
        have z0 := ZC.ZL.box hq (R0.at_ 0 rfl) (R0.at_ 1 rfl) (.bool bp) (.slice Ap np cp); have z1 := ZC.ZL.box hr (R0.at_ 0 rfl) (R0.at_ 1 rfl) (.bool bp) (.slice Ap np cp)
        have y0 := ZC.ZL.box z0 (R1'.at_ 0 rfl) (R1'.at_ 1 rfl) (.bool by') (.slice Ay ny cy); have y1 := ZC.ZL.box z1 (R1'.at_ 0 rfl) (R1'.at_ 1 rfl) (.bool by') (.slice Ay ny cy)
        have D2 := Lib.hid (below_set2 (below_set2 (D0.out.trans (D.mono D0.out.size)) (show w.heap.size ≤ w.heap.size + 1 + 1 by omega) (.bool bp) (.slice Ap np cp)) (show w.heap.size ≤ w.heap.size + 1 + 1 + 1 by omega) (.bool by') (.slice Ay ny cy))
        have f0 := R0.frozen 0; have f1 := R0.frozen 1; have t0 := R0.at_ 0 rfl; have t1 := R0.at_ 1 rfl; have f2 := R1'.frozen 0; have f3 := R1'.frozen 1; have t2 := R1'.at_ 0 rfl; have t3 := R1'.at_ 1 rfl
        have RR := (R0.set2 (.bool bp) (.slice Ap np cp)).far2 (show w.heap.size + 1 + 1 ≠ w.heap.size + 1 + 1 + 1 by omega) (.bool by') (.slice Ay ny cy)
        have RS := R1'.set2 (.bool by') (.slice Ay ny cy)
        have u0 := RR.at_ 0 rfl; have u1 := RR.at_ 1 rfl; have u2 := RS.at_ 0 rfl; have u3 := RS.at_ 1 rfl
        have U := Lib.hid (And.intro u0 (And.intro u1 (And.intro u2 u3)))
        have Y := Lib.hid (And.intro y0 y1)
        (refine wp_region_L (S := fun w' => w'.cell? ⟨g, 0, none⟩ = some (.bool bp) ∧ w'.cell? ⟨g, 1, none⟩ = some (.slice Ap np cp) ∧ w'.cell? ⟨h, 0, none⟩ = some (.bool by') ∧ w'.cell? ⟨h, 1, none⟩ = some (.slice Ay ny cy)) (nl := 1000000) (by kernel_rfl) ?_ (fun hHeld => ?_); focus (exact ⟨hG.drew.at_ 0 rfl, hG.drew.at_ 1 rfl, hH.drew.at_ 0 rfl, hH.drew.at_ 1 rfl⟩))
        (refine wpAnyL_take (i := 0) (oi := _) (v := ?_) rfl (by kernel_rfl) (by kernel_rfl) (by kernel_rfl) (fun _ _ _ h => h) (Or.inl ⟨by first | rfl | kernel_rfl, ?hy48⟩) (by assumption) ?rs48; (case hy48 => (intro w hSw; (try dsimp only at hSw); go_simp; first | done | with_reducible rfl)); case' rs48 => (simp only [List.getElem_toArray, List.getElem_cons_zero, List.getElem_cons_succ, Act.put, List.setIfInBounds_toArray, List.set_cons_zero, List.set_cons_succ])); (refine wpAnyL_take (i := 1) (oi := _) (v := ?_) rfl (by kernel_rfl) (by kernel_rfl) (by kernel_rfl) (fun _ _ _ h => h) (Or.inl ⟨by first | rfl | kernel_rfl, ?hy49⟩) (by assumption) ?rs49; (case hy49 => (intro w hSw; (try dsimp only at hSw); go_simp; first | done | with_reducible rfl)); case' rs49 => (simp only [List.getElem_toArray, List.getElem_cons_zero, List.getElem_cons_succ, Act.put, List.setIfInBounds_toArray, List.set_cons_zero, List.set_cons_succ])); (refine wpAnyL_take (i := 2) (oi := _) (v := ?_) rfl (by kernel_rfl) (by kernel_rfl) (by kernel_rfl) (fun _ _ _ h => h) (Or.inl ⟨by first | rfl | kernel_rfl, ?hy50⟩) (by assumption) ?rs50; (case hy50 => (intro w hSw; (try dsimp only at hSw); go_simp; first | done | with_reducible rfl)); case' rs50 => (simp only [List.getElem_toArray, List.getElem_cons_zero, List.getElem_cons_succ, Act.put, List.setIfInBounds_toArray, List.set_cons_zero, List.set_cons_succ])); skip
        clear u0 u1 u2 u3 RR RS y0 y1 z0 z1 R0 R1 R1' hG hH hq hr D
        (refine wpAnyL_one (i := 3) (o := _) (by kernel_rfl) rfl (fun K hK => ?_); clear hHeld; simp only [List.getElem_toArray, List.getElem_cons_zero, List.getElem_cons_succ]; go_simp; refine hK.out _ _ ?_ (fun hHeld => ?_); focus (intro _; exact ⟨G1.drew.at_ 0 rfl, G1.drew.at_ 1 rfl, H1.drew.at_ 0 rfl, H1.drew.at_ 1 rfl⟩)); have hHeld := hHeld (by decide); clear hK K; (try simp only [Act.put, List.setIfInBounds_toArray, List.set_cons_zero, List.set_cons_succ])
        (refine wpAnyL_one (i := 4) (o := _) (by kernel_rfl) rfl (fun K hK => ?_); clear hHeld; simp only [List.getElem_toArray, List.getElem_cons_zero, List.getElem_cons_succ]; go_simp; refine hK.out _ _ ?_ (fun hHeld => ?_); focus (intro _; exact ⟨G2.drew.at_ 0 rfl, G2.drew.at_ 1 rfl, H2.drew.at_ 0 rfl, H2.drew.at_ 1 rfl⟩)); have hHeld := hHeld (by decide); clear hK K; (try simp only [Act.put, List.setIfInBounds_toArray, List.set_cons_zero, List.set_cons_succ])
        (refine wpAnyL_take (i := 5) (oi := _) (v := ?_) rfl (by kernel_rfl) (by kernel_rfl) (by kernel_rfl) (fun _ _ _ h => h) (Or.inl ⟨by first | rfl | kernel_rfl, ?hy51⟩) (by assumption) ?rs51; (case hy51 => (intro w hSw; (try dsimp only at hSw); go_simp; first | done | with_reducible rfl)); case' rs51 => (simp only [List.getElem_toArray, List.getElem_cons_zero, List.getElem_cons_succ, Act.put, List.setIfInBounds_toArray, List.set_cons_zero, List.set_cons_succ])); skip
        refine wpAnyL_done (by kernel_rfl) ?_ _
        go_wp2
        obtain ⟨u0, u1, u2, u3⟩ := U.out
        refine bodyPost_ret (v := .tuple #[.agg #[.bool bp, .slice Ap np cp], .agg #[.bool by', .slice Ay ny cy], .int .i64 T]) (by simp [results, Tryd.results41, go_sem, u0, u1, u2, u3]) rfl ?_
        have hT := HT.out
        have eT : max ta tb = T := by split at hT <;> omega
        have e1 : (max ta tb - ta).toNat = k := by have := HK.out; omega
        have e2 : (max ta tb - tb).toNat = 0 := by omega
        rw [e1, e2, eT]
        refine ⟨_, _, _, _, _, _, _, _, rfl, ?_, ?_, D2.out.drew⟩
        · exact Y.out.1.drew
        · rw [Int.pow_zero, Int.mul_one]; exact Y.out.2.drew
    · by_cases k2 : tb < T
      · as_aux_lemma =>
          have i1 : IntKind.i64.wrap (T - tb) = T - tb := IntWalk.i64_in _ (by have := HT.out; split at this <;> omega)
          obtain ⟨k, hk⟩ : ∃ k : Nat, T - tb = k := ⟨(T - tb).toNat, by omega⟩
          have kb : k ≤ 100000 := by have := HT.out; split at this <;> omega
          have PW : Hid (∀ W : World, Calls Tryd.prog 64 #[.int .i64 (T - tb)] W (RetZ W (2 ^ k))) := fun W => by
            rw [hk]
            have := ZPow_c k (k : Int) W (by omega) (by simp) (by omega)
            simpa using this
          have MU : Hid (∀ (W : World) (u v : Value), ZV W u b → ZV W v (2 ^ k) → Calls Tryd.prog 44 #[u, v] W (RetZ W (b * 2 ^ k))) := fun W u v h1 h2 => ZMul_c u v _ _ W h1 h2 (big_lt bB) (pow2_big k (by omega))
          have HK := Lib.hid hk
          clear hk kb
          go_upto_region 6 with fail
          have D := D.drew; have hG := hG.drew; have hH := hH.drew; have hq := hq.drew; have hr := hr.drew
          (refine wp_region_L (S := fun w' => w'.cell? ⟨w.heap.size + 1, 2, none⟩ = some (.int .i64 tb) ∧ w'.cell? ⟨h, 0, none⟩ = some (.bool by') ∧ w'.cell? ⟨h, 1, none⟩ = some (.slice Ay ny cy)) (nl := 7) (by kernel_rfl) ?_ (fun hHeld => ?_); focus (exact ⟨(KB.out _ D).1.2.2.2.2.2, hH.at_ 0 rfl, hH.at_ 1 rfl⟩))
          (refine wpAnyL_take (i := 0) (oi := _) (v := ?_) rfl (by kernel_rfl) (by kernel_rfl) (by kernel_rfl) (fun _ _ _ h => h) (Or.inl ⟨by first | rfl | kernel_rfl, ?hy52⟩) (by assumption) ?rs52; (case hy52 => (intro w hSw; (try dsimp only at hSw); go_simp; first | done | with_reducible rfl)); case' rs52 => (simp only [List.getElem_toArray, List.getElem_cons_zero, List.getElem_cons_succ, Act.put, List.setIfInBounds_toArray, List.set_cons_zero, List.set_cons_succ])); (refine wpAnyL_take (i := 1) (oi := _) (v := ?_) rfl (by kernel_rfl) (by kernel_rfl) (by kernel_rfl) (fun _ _ _ h => h) (Or.inl ⟨by first | rfl | kernel_rfl, ?hy53⟩) (by assumption) ?rs53; (case hy53 => (intro w hSw; (try dsimp only at hSw); go_simp; first | done | with_reducible rfl)); case' rs53 => (simp only [List.getElem_toArray, List.getElem_cons_zero, List.getElem_cons_succ, Act.put, List.setIfInBounds_toArray, List.set_cons_zero, List.set_cons_succ])); (refine wpAnyL_take (i := 2) (oi := _) (v := ?_) rfl (by kernel_rfl) (by kernel_rfl) (by kernel_rfl) (fun _ _ _ h => h) (Or.inl ⟨by first | rfl | kernel_rfl, ?hy54⟩) (by assumption) ?rs54; (case hy54 => (intro w hSw; (try dsimp only at hSw); go_simp; first | done | with_reducible rfl)); case' rs54 => (simp only [List.getElem_toArray, List.getElem_cons_zero, List.getElem_cons_succ, Act.put, List.setIfInBounds_toArray, List.set_cons_zero, List.set_cons_succ])); (refine wpAnyL_take (i := 3) (oi := _) (v := ?_) rfl (by kernel_rfl) (by kernel_rfl) (by kernel_rfl) (fun _ _ _ h => h) (Or.inl ⟨by first | rfl | kernel_rfl, ?hy55⟩) (by assumption) ?rs55; (case hy55 => (intro w hSw; (try dsimp only at hSw); go_simp; first | done | with_reducible rfl)); case' rs55 => (simp only [List.getElem_toArray, List.getElem_cons_zero, List.getElem_cons_succ, Act.put, List.setIfInBounds_toArray, List.set_cons_zero, List.set_cons_succ])); (refine wpAnyL_take (i := 4) (oi := _) (v := ?_) rfl (by kernel_rfl) (by kernel_rfl) (by kernel_rfl) (fun _ _ _ h => h) (Or.inl ⟨by first | rfl | kernel_rfl, ?hy56⟩) (by assumption) ?rs56; (case hy56 => (intro w hSw; (try dsimp only at hSw); go_simp; first | done | with_reducible rfl)); case' rs56 => (simp only [List.getElem_toArray, List.getElem_cons_zero, List.getElem_cons_succ, Act.put, List.setIfInBounds_toArray, List.set_cons_zero, List.set_cons_succ])); skip
          (refine wpAnyL_one (i := 5) (o := _) (by kernel_rfl) rfl (fun K hK => ?_); clear hHeld; simp only [List.getElem_toArray, List.getElem_cons_zero, List.getElem_cons_succ]; go_simp; (go_at_call 64; (with_reducible refine (PW.out _).mono ?_); rintro e w1 ⟨_, rfl, ⟨bp, Ap, np, cp, rfl, hp⟩, hb3⟩; have D := D.trans (hb3.mono D.size); have hG := hG.below hb3 hG.lt; have hH := hH.below hb3 hH.lt; have hq := hq.below hb3; have hr := hr.below hb3); refine hK.out _ _ ?_ (fun hHeld => ?_); focus (intro _; exact ⟨(KB.out _ D).1.2.2.2.2.2, hH.at_ 0 rfl, hH.at_ 1 rfl⟩)); have hHeld := hHeld (by decide); clear hK K; (try simp only [Act.put, List.setIfInBounds_toArray, List.set_cons_zero, List.set_cons_succ])
          (refine wpAnyL_one (i := 6) (o := _) (by kernel_rfl) rfl (fun K hK => ?_); clear hHeld; simp only [List.getElem_toArray, List.getElem_cons_zero, List.getElem_cons_succ]; go_simp; (go_at_call 44; (with_reducible refine (MU.out _ _ _ hr.v hp.zl.v).mono ?_); rintro e w2 ⟨_, rfl, ⟨bp, Ap, np, cp, rfl, hp⟩, hb3⟩; have D := D.trans (hb3.mono D.size); have hG := hG.below hb3 hG.lt; have hH := hH.below hb3 hH.lt; have hq := hq.below hb3; have hr := hr.below hb3); refine hK.out _ _ ?_ (fun hHeld => ?_); focus (intro _; exact ⟨(KB.out _ D).1.2.2.2.2.2, hH.at_ 0 rfl, hH.at_ 1 rfl⟩)); have hHeld := hHeld (by decide); clear hK K; (try simp only [Act.put, List.setIfInBounds_toArray, List.set_cons_zero, List.set_cons_succ])
          have hz := ZC.ZL.box hp.zl (hH.at_ 0 rfl) (hH.at_ 1 rfl) (.bool bp) (.slice Ap np cp)
          have ho := ZC.ZL.box hq (hH.at_ 0 rfl) (hH.at_ 1 rfl) (.bool bp) (.slice Ap np cp)
          have h2' := hH.set2 (.bool bp) (.slice Ap np cp)
          have h3' := hG.far2 (hne.symm).symm (.bool bp) (.slice Ap np cp)
          have D2 := below_set2 D hh (.bool bp) (.slice Ap np cp)
          have f0 := hH.frozen 0; have f1 := hH.frozen 1; have t0 := hH.at_ 0 rfl; have t1 := hH.at_ 1 rfl
          clear hq hr hp hG hH D
          (refine wpAnyL_one (i := 7) (o := _) (by kernel_rfl) rfl (fun K hK => ?_); clear hHeld; simp only [List.getElem_toArray, List.getElem_cons_zero, List.getElem_cons_succ]; go_simp; refine hK.out _ _ ?_ (fun hHeld => ?_); focus (intro h; exact absurd h (by decide))); clear hK K; (try simp only [Act.put, List.setIfInBounds_toArray, List.set_cons_zero, List.set_cons_succ])
          refine wpAnyL_done (by kernel_rfl) ?_ _
          obtain ⟨w3, hw3⟩ : ∃ w3, ((w2.setCell ⟨h, 0, none⟩ (.bool bp)).setCell ⟨h, 1, none⟩ (.slice Ap np cp)) = w3 := ⟨_, rfl⟩
          rw [hw3] at D2 h2' h3' hz ho ⊢
          clear hw3
          have D := D2; have hH := h2'; have hG := h3'; have hr := hz; have hq := ho
          clear D2 h2' h3' hz ho f0 f1 t0 t1
          obtain ⟨⟨p0, p1, p2, q0, q1, q2⟩, -, -⟩ := KB.out _ D
          have g0 := hG.at_ 0 rfl; have g1 := hG.at_ 1 rfl; have h0 := hH.at_ 0 rfl; have h1 := hH.at_ 1 rfl
          go_upto_region 7 with fail
          obtain ⟨-, R0, R1⟩ := KB.out _ D
          have R0 := (show Blk _ (w.heap.size + 1 + 1) 30 #[.bool false, .slice none 0 0] from R0)
          have R1 := (show Blk _ (w.heap.size + 1 + 1 + 1) 30 #[.bool false, .slice none 0 0] from R1)
          have eg : g ≠ w.heap.size + 1 + 1 := by have := HS2.out; omega
          have eh : h ≠ w.heap.size + 1 + 1 := by have := HS2.out; omega
          have eg3 : g ≠ w.heap.size + 1 + 1 + 1 := by have := HS2.out; omega
          have eh3 : h ≠ w.heap.size + 1 + 1 + 1 := by have := HS2.out; omega
          have G1 := hG.far2 eg (.bool bx) (.slice Ax nx cx); have H1 := hH.far2 eh (.bool bx) (.slice Ax nx cx); have R1' := R1.far2 (show w.heap.size + 1 + 1 + 1 ≠ w.heap.size + 1 + 1 by omega) (.bool bx) (.slice Ax nx cx)
          have G2 := G1.far2 eg3 (.bool bp) (.slice Ap np cp); have H2 := H1.far2 eh3 (.bool bp) (.slice Ap np cp)
          have z0 := ZC.ZL.box hq (R0.at_ 0 rfl) (R0.at_ 1 rfl) (.bool bx) (.slice Ax nx cx); have z1 := ZC.ZL.box hr (R0.at_ 0 rfl) (R0.at_ 1 rfl) (.bool bx) (.slice Ax nx cx)
          have y0 := ZC.ZL.box z0 (R1'.at_ 0 rfl) (R1'.at_ 1 rfl) (.bool bp) (.slice Ap np cp); have y1 := ZC.ZL.box z1 (R1'.at_ 0 rfl) (R1'.at_ 1 rfl) (.bool bp) (.slice Ap np cp)
          have D2 := Lib.hid (below_set2 (below_set2 (D0.out.trans (D.mono D0.out.size)) (show w.heap.size ≤ w.heap.size + 1 + 1 by omega) (.bool bx) (.slice Ax nx cx)) (show w.heap.size ≤ w.heap.size + 1 + 1 + 1 by omega) (.bool bp) (.slice Ap np cp))
          have f0 := R0.frozen 0; have f1 := R0.frozen 1; have t0 := R0.at_ 0 rfl; have t1 := R0.at_ 1 rfl; have f2 := R1'.frozen 0; have f3 := R1'.frozen 1; have t2 := R1'.at_ 0 rfl; have t3 := R1'.at_ 1 rfl
          have RR := (R0.set2 (.bool bx) (.slice Ax nx cx)).far2 (show w.heap.size + 1 + 1 ≠ w.heap.size + 1 + 1 + 1 by omega) (.bool bp) (.slice Ap np cp)
          have RS := R1'.set2 (.bool bp) (.slice Ap np cp)
          have u0 := RR.at_ 0 rfl; have u1 := RR.at_ 1 rfl; have u2 := RS.at_ 0 rfl; have u3 := RS.at_ 1 rfl
          have U := Lib.hid (And.intro u0 (And.intro u1 (And.intro u2 u3)))
          have Y := Lib.hid (And.intro y0 y1)
          (refine wp_region_L (S := fun w' => w'.cell? ⟨g, 0, none⟩ = some (.bool bx) ∧ w'.cell? ⟨g, 1, none⟩ = some (.slice Ax nx cx) ∧ w'.cell? ⟨h, 0, none⟩ = some (.bool bp) ∧ w'.cell? ⟨h, 1, none⟩ = some (.slice Ap np cp)) (nl := 1000000) (by kernel_rfl) ?_ (fun hHeld => ?_); focus (exact ⟨hG.drew.at_ 0 rfl, hG.drew.at_ 1 rfl, hH.drew.at_ 0 rfl, hH.drew.at_ 1 rfl⟩))
          (refine wpAnyL_take (i := 0) (oi := _) (v := ?_) rfl (by kernel_rfl) (by kernel_rfl) (by kernel_rfl) (fun _ _ _ h => h) (Or.inl ⟨by first | rfl | kernel_rfl, ?hy57⟩) (by assumption) ?rs57; (case hy57 => (intro w hSw; (try dsimp only at hSw); go_simp; first | done | with_reducible rfl)); case' rs57 => (simp only [List.getElem_toArray, List.getElem_cons_zero, List.getElem_cons_succ, Act.put, List.setIfInBounds_toArray, List.set_cons_zero, List.set_cons_succ])); (refine wpAnyL_take (i := 1) (oi := _) (v := ?_) rfl (by kernel_rfl) (by kernel_rfl) (by kernel_rfl) (fun _ _ _ h => h) (Or.inl ⟨by first | rfl | kernel_rfl, ?hy58⟩) (by assumption) ?rs58; (case hy58 => (intro w hSw; (try dsimp only at hSw); go_simp; first | done | with_reducible rfl)); case' rs58 => (simp only [List.getElem_toArray, List.getElem_cons_zero, List.getElem_cons_succ, Act.put, List.setIfInBounds_toArray, List.set_cons_zero, List.set_cons_succ])); (refine wpAnyL_take (i := 2) (oi := _) (v := ?_) rfl (by kernel_rfl) (by kernel_rfl) (by kernel_rfl) (fun _ _ _ h => h) (Or.inl ⟨by first | rfl | kernel_rfl, ?hy59⟩) (by assumption) ?rs59; (case hy59 => (intro w hSw; (try dsimp only at hSw); go_simp; first | done | with_reducible rfl)); case' rs59 => (simp only [List.getElem_toArray, List.getElem_cons_zero, List.getElem_cons_succ, Act.put, List.setIfInBounds_toArray, List.set_cons_zero, List.set_cons_succ])); skip
          clear u0 u1 u2 u3 RR RS y0 y1 z0 z1 R0 R1 R1' hG hH hq hr D
          (refine wpAnyL_one (i := 3) (o := _) (by kernel_rfl) rfl (fun K hK => ?_); clear hHeld; simp only [List.getElem_toArray, List.getElem_cons_zero, List.getElem_cons_succ]; go_simp; refine hK.out _ _ ?_ (fun hHeld => ?_); focus (intro _; exact ⟨G1.drew.at_ 0 rfl, G1.drew.at_ 1 rfl, H1.drew.at_ 0 rfl, H1.drew.at_ 1 rfl⟩)); have hHeld := hHeld (by decide); clear hK K; (try simp only [Act.put, List.setIfInBounds_toArray, List.set_cons_zero, List.set_cons_succ])
          (refine wpAnyL_one (i := 4) (o := _) (by kernel_rfl) rfl (fun K hK => ?_); clear hHeld; simp only [List.getElem_toArray, List.getElem_cons_zero, List.getElem_cons_succ]; go_simp; refine hK.out _ _ ?_ (fun hHeld => ?_); focus (intro _; exact ⟨G2.drew.at_ 0 rfl, G2.drew.at_ 1 rfl, H2.drew.at_ 0 rfl, H2.drew.at_ 1 rfl⟩)); have hHeld := hHeld (by decide); clear hK K; (try simp only [Act.put, List.setIfInBounds_toArray, List.set_cons_zero, List.set_cons_succ])
          (refine wpAnyL_take (i := 5) (oi := _) (v := ?_) rfl (by kernel_rfl) (by kernel_rfl) (by kernel_rfl) (fun _ _ _ h => h) (Or.inl ⟨by first | rfl | kernel_rfl, ?hy60⟩) (by assumption) ?rs60; (case hy60 => (intro w hSw; (try dsimp only at hSw); go_simp; first | done | with_reducible rfl)); case' rs60 => (simp only [List.getElem_toArray, List.getElem_cons_zero, List.getElem_cons_succ, Act.put, List.setIfInBounds_toArray, List.set_cons_zero, List.set_cons_succ])); skip
          refine wpAnyL_done (by kernel_rfl) ?_ _
          go_wp2
          obtain ⟨u0, u1, u2, u3⟩ := U.out
          refine bodyPost_ret (v := .tuple #[.agg #[.bool bx, .slice Ax nx cx], .agg #[.bool bp, .slice Ap np cp], .int .i64 T]) (by simp [results, Tryd.results41, go_sem, u0, u1, u2, u3]) rfl ?_
          have hT := HT.out
          have eT : max ta tb = T := by split at hT <;> omega
          have e1 : (max ta tb - ta).toNat = 0 := by omega
          have e2 : (max ta tb - tb).toNat = k := by have := HK.out; omega
          rw [e1, e2, eT]
          refine ⟨_, _, _, _, _, _, _, _, rfl, ?_, ?_, D2.out.drew⟩
          · rw [Int.pow_zero, Int.mul_one]; exact Y.out.1.drew
          · exact Y.out.2.drew
      · as_aux_lemma =>
          go_upto_region 7 with fail
          obtain ⟨-, R0, R1⟩ := KB.out _ D
          have R0 := (show Blk _ (w.heap.size + 1 + 1) 30 #[.bool false, .slice none 0 0] from R0)
          have R1 := (show Blk _ (w.heap.size + 1 + 1 + 1) 30 #[.bool false, .slice none 0 0] from R1)
          have eg : g ≠ w.heap.size + 1 + 1 := by have := HS2.out; omega
          have eh : h ≠ w.heap.size + 1 + 1 := by have := HS2.out; omega
          have eg3 : g ≠ w.heap.size + 1 + 1 + 1 := by have := HS2.out; omega
          have eh3 : h ≠ w.heap.size + 1 + 1 + 1 := by have := HS2.out; omega
          have G1 := hG.far2 eg (.bool bx) (.slice Ax nx cx); have H1 := hH.far2 eh (.bool bx) (.slice Ax nx cx); have R1' := R1.far2 (show w.heap.size + 1 + 1 + 1 ≠ w.heap.size + 1 + 1 by omega) (.bool bx) (.slice Ax nx cx)
          have G2 := G1.far2 eg3 (.bool by') (.slice Ay ny cy); have H2 := H1.far2 eh3 (.bool by') (.slice Ay ny cy)
          have z0 := ZC.ZL.box hq (R0.at_ 0 rfl) (R0.at_ 1 rfl) (.bool bx) (.slice Ax nx cx); have z1 := ZC.ZL.box hr (R0.at_ 0 rfl) (R0.at_ 1 rfl) (.bool bx) (.slice Ax nx cx)
          have y0 := ZC.ZL.box z0 (R1'.at_ 0 rfl) (R1'.at_ 1 rfl) (.bool by') (.slice Ay ny cy); have y1 := ZC.ZL.box z1 (R1'.at_ 0 rfl) (R1'.at_ 1 rfl) (.bool by') (.slice Ay ny cy)
          have D2 := Lib.hid (below_set2 (below_set2 (D0.out.trans (D.mono D0.out.size)) (show w.heap.size ≤ w.heap.size + 1 + 1 by omega) (.bool bx) (.slice Ax nx cx)) (show w.heap.size ≤ w.heap.size + 1 + 1 + 1 by omega) (.bool by') (.slice Ay ny cy))
          have f0 := R0.frozen 0; have f1 := R0.frozen 1; have t0 := R0.at_ 0 rfl; have t1 := R0.at_ 1 rfl; have f2 := R1'.frozen 0; have f3 := R1'.frozen 1; have t2 := R1'.at_ 0 rfl; have t3 := R1'.at_ 1 rfl
          have RR := (R0.set2 (.bool bx) (.slice Ax nx cx)).far2 (show w.heap.size + 1 + 1 ≠ w.heap.size + 1 + 1 + 1 by omega) (.bool by') (.slice Ay ny cy)
          have RS := R1'.set2 (.bool by') (.slice Ay ny cy)
          have u0 := RR.at_ 0 rfl; have u1 := RR.at_ 1 rfl; have u2 := RS.at_ 0 rfl; have u3 := RS.at_ 1 rfl
          have U := Lib.hid (And.intro u0 (And.intro u1 (And.intro u2 u3)))
          have Y := Lib.hid (And.intro y0 y1)
          (refine wp_region_L (S := fun w' => w'.cell? ⟨g, 0, none⟩ = some (.bool bx) ∧ w'.cell? ⟨g, 1, none⟩ = some (.slice Ax nx cx) ∧ w'.cell? ⟨h, 0, none⟩ = some (.bool by') ∧ w'.cell? ⟨h, 1, none⟩ = some (.slice Ay ny cy)) (nl := 1000000) (by kernel_rfl) ?_ (fun hHeld => ?_); focus (exact ⟨hG.drew.at_ 0 rfl, hG.drew.at_ 1 rfl, hH.drew.at_ 0 rfl, hH.drew.at_ 1 rfl⟩))
          (refine wpAnyL_take (i := 0) (oi := _) (v := ?_) rfl (by kernel_rfl) (by kernel_rfl) (by kernel_rfl) (fun _ _ _ h => h) (Or.inl ⟨by first | rfl | kernel_rfl, ?hy61⟩) (by assumption) ?rs61; (case hy61 => (intro w hSw; (try dsimp only at hSw); go_simp; first | done | with_reducible rfl)); case' rs61 => (simp only [List.getElem_toArray, List.getElem_cons_zero, List.getElem_cons_succ, Act.put, List.setIfInBounds_toArray, List.set_cons_zero, List.set_cons_succ])); (refine wpAnyL_take (i := 1) (oi := _) (v := ?_) rfl (by kernel_rfl) (by kernel_rfl) (by kernel_rfl) (fun _ _ _ h => h) (Or.inl ⟨by first | rfl | kernel_rfl, ?hy62⟩) (by assumption) ?rs62; (case hy62 => (intro w hSw; (try dsimp only at hSw); go_simp; first | done | with_reducible rfl)); case' rs62 => (simp only [List.getElem_toArray, List.getElem_cons_zero, List.getElem_cons_succ, Act.put, List.setIfInBounds_toArray, List.set_cons_zero, List.set_cons_succ])); (refine wpAnyL_take (i := 2) (oi := _) (v := ?_) rfl (by kernel_rfl) (by kernel_rfl) (by kernel_rfl) (fun _ _ _ h => h) (Or.inl ⟨by first | rfl | kernel_rfl, ?hy63⟩) (by assumption) ?rs63; (case hy63 => (intro w hSw; (try dsimp only at hSw); go_simp; first | done | with_reducible rfl)); case' rs63 => (simp only [List.getElem_toArray, List.getElem_cons_zero, List.getElem_cons_succ, Act.put, List.setIfInBounds_toArray, List.set_cons_zero, List.set_cons_succ])); skip
          clear u0 u1 u2 u3 RR RS y0 y1 z0 z1 R0 R1 R1' hG hH hq hr D
          (refine wpAnyL_one (i := 3) (o := _) (by kernel_rfl) rfl (fun K hK => ?_); clear hHeld; simp only [List.getElem_toArray, List.getElem_cons_zero, List.getElem_cons_succ]; go_simp; refine hK.out _ _ ?_ (fun hHeld => ?_); focus (intro _; exact ⟨G1.drew.at_ 0 rfl, G1.drew.at_ 1 rfl, H1.drew.at_ 0 rfl, H1.drew.at_ 1 rfl⟩)); have hHeld := hHeld (by decide); clear hK K; (try simp only [Act.put, List.setIfInBounds_toArray, List.set_cons_zero, List.set_cons_succ])
          (refine wpAnyL_one (i := 4) (o := _) (by kernel_rfl) rfl (fun K hK => ?_); clear hHeld; simp only [List.getElem_toArray, List.getElem_cons_zero, List.getElem_cons_succ]; go_simp; refine hK.out _ _ ?_ (fun hHeld => ?_); focus (intro _; exact ⟨G2.drew.at_ 0 rfl, G2.drew.at_ 1 rfl, H2.drew.at_ 0 rfl, H2.drew.at_ 1 rfl⟩)); have hHeld := hHeld (by decide); clear hK K; (try simp only [Act.put, List.setIfInBounds_toArray, List.set_cons_zero, List.set_cons_succ])
          (refine wpAnyL_take (i := 5) (oi := _) (v := ?_) rfl (by kernel_rfl) (by kernel_rfl) (by kernel_rfl) (fun _ _ _ h => h) (Or.inl ⟨by first | rfl | kernel_rfl, ?hy64⟩) (by assumption) ?rs64; (case hy64 => (intro w hSw; (try dsimp only at hSw); go_simp; first | done | with_reducible rfl)); case' rs64 => (simp only [List.getElem_toArray, List.getElem_cons_zero, List.getElem_cons_succ, Act.put, List.setIfInBounds_toArray, List.set_cons_zero, List.set_cons_succ])); skip
          refine wpAnyL_done (by kernel_rfl) ?_ _
          go_wp2
          obtain ⟨u0, u1, u2, u3⟩ := U.out
          refine bodyPost_ret (v := .tuple #[.agg #[.bool bx, .slice Ax nx cx], .agg #[.bool by', .slice Ay ny cy], .int .i64 T]) (by simp [results, Tryd.results41, go_sem, u0, u1, u2, u3]) rfl ?_
          have hT := HT.out
          have eT : max ta tb = T := by split at hT <;> omega
          have e1 : (max ta tb - ta).toNat = 0 := by omega
          have e2 : (max ta tb - tb).toNat = 0 := by omega
          rw [e1, e2, eT]
          refine ⟨_, _, _, _, _, _, _, _, rfl, ?_, ?_, D2.out.drew⟩
          · rw [Int.pow_zero, Int.mul_one]; exact Y.out.1.drew
          · rw [Int.pow_zero, Int.mul_one]; exact Y.out.2.drew
end QC
end Go.Proofs.YtelblhgagpkjmaaDoor

/-
  The reference's numbers over a power of two: QCmp, QAdd.
-/
namespace Go.Proofs.YtelblhgagpkjmaaDoor
set_option linter.unusedVariables false
set_option linter.unusedSimpArgs false
open Go.RowKit
set_option linter.unusedVariables false
set_option linter.unusedSimpArgs false
namespace QC
open Z (Nz Tz cmpv big)
open ZC
/-- both over the greater power -/
def up (a ta tb : Int) : Int := a * 2 ^ (max ta tb - ta).toNat
theorem qbx2 (w : World) (b1 b2 : Bool) (A1 A2 : Option Addr) (n1 c1 n2 c2 : Nat) (t1 t2 : Int) :
    ∃ W0, (w.alloc (.cells #[.bool b1, .slice A1 n1 c1, .int .i64 t1] 32)).alloc (.cells #[.bool b2, .slice A2 n2 c2, .int .i64 t2] 32) = W0 ∧ Below w.heap.size w W0 := by
  obtain ⟨N1, N2, NS, NB⟩ := new2 w 32 32 #[.bool b1, .slice A1 n1 c1, .int .i64 t1] #[.bool b2, .slice A2 n2 c2, .int .i64 t2] 0
  rw [World.drewN_zero] at N1 N2 NS NB
  exact ⟨_, rfl, NB⟩
theorem QCmp_c (va vb : Value) (a b ta tb : Int) (w : World) (ha : QV w va a ta) (hb : QV w vb b tb) (bA : a.natAbs < big 500000) (bB : b.natAbs < big 500000) (h1 : 0 ≤ ta ∧ ta ≤ 100000) (h2 : 0 ≤ tb ∧ tb ≤ 100000)
    (k1 : (up a ta tb).natAbs < big 1000000) (k2 : (up b tb ta).natAbs < big 1000000) :
    Calls Tryd.prog 15 #[va, vb] w fun e w' => e = .returned (.int .i64 (cmpv (up a ta tb) (up b tb ta))) ∧ Below w.heap.size w w' := by
  have LVc : ∀ W, Below w.heap.size w W → Calls Tryd.prog 41 #[va, vb] W (RetLv W (up a ta tb) (up b tb ta) (max ta tb)) := fun W hW => by
    have ha' : QV W va a ta := by obtain ⟨b, A, n, c, e, h⟩ := ha; exact ⟨b, A, n, c, e, h.below hW⟩
    have hb' : QV W vb b tb := by obtain ⟨b, A, n, c, e, h⟩ := hb; exact ⟨b, A, n, c, e, h.below hW⟩
    have := level_c va vb a b ta tb W ha' hb' bA bB h1 h2
    rw [show (max ta tb - tb) = max tb ta - tb by omega] at this
    exact this
  obtain ⟨b1, A1, n1, c1, rfl, hv1⟩ := ha
  obtain ⟨b2, A2, n2, c2, rfl, hv2⟩ := hb
  obtain ⟨W0, hW0, D0⟩ := qbx2 w b1 b2 A1 A2 n1 c1 n2 c2 ta tb
  have LC := Lib.hid (LVc W0 D0)
  have CP : Hid (∀ (W : World) (u v : Value), ZV W u (up a ta tb) → ZV W v (up b tb ta) → Calls Tryd.prog 46 #[u, v] W fun e w' => e = .returned (.int .i64 (cmpv (up a ta tb) (up b tb ta))) ∧ Below W.heap.size W w') := fun W u v h1 h2 => ZCmp_c u v _ _ W h1 h2 k1 k2
  have HW0 := Lib.hid hW0
  have D0 := Lib.hid D0
  generalize up a ta tb = x at *
  generalize up b tb ta = y at *
  generalize cmpv x y = r at *
  clear hv1 hv2 hW0 bA bB h1 h2 k1 k2 LVc
  go_enter Tryd.func15, Tryd.ntmps15
  go_wp2_with (first
    | (go_at_call 41; rw [HW0.out]; (with_reducible refine (LC.out).mono ?_); rintro e w2 ⟨bx, Ax, nx, cx, by', Ay, ny, cy, rfl, hx, hy, hb⟩; have hx := (hx.alloc (.cells #[.bool bx, .slice Ax nx cx] 30)).alloc (.cells #[.bool by', .slice Ay ny cy] 30); have hy := (hy.alloc (.cells #[.bool bx, .slice Ax nx cx] 30)).alloc (.cells #[.bool by', .slice Ay ny cy] 30); have D := Lib.hid ((hb.alloc hb.size (.cells #[.bool bx, .slice Ax nx cx] 30)).alloc ((hb.alloc hb.size (.cells #[.bool bx, .slice Ax nx cx] 30)).size) (.cells #[.bool by', .slice Ay ny cy] 30)))
    | (go_at_call 46; (with_reducible refine (CP.out _ _ _ hx.v hy.v).mono ?_); rintro e w3 ⟨rfl, hb3⟩))
  go_ret
  exact ⟨rfl, D0.out.trans ((D.out.trans (hb3.mono D.out.size)).mono D0.out.size)⟩
end QC
end Go.Proofs.YtelblhgagpkjmaaDoor

/-
  The reference's numbers over a power of two: QAdd, QNeg, QAbs, QShift.
-/
namespace Go.Proofs.YtelblhgagpkjmaaDoor
set_option linter.unusedVariables false
set_option linter.unusedSimpArgs false
open Go.RowKit
set_option linter.unusedVariables false
set_option linter.unusedSimpArgs false
namespace QC
open Z (Nz Tz cmpv big)
open ZC
theorem last_ne {L : List Int} (h : Nz L) (hne : L ≠ []) : L.getD (L.length - 1) 0 ≠ 0 := by
  have := h hne
  rw [List.getD_eq_getElem?_getD, List.getElem?_eq_getElem (by have := List.length_pos_iff.2 hne; omega)]
  rw [List.getLast_eq_getElem] at this
  exact this
theorem cell_q {w : World} {p : Addr} {T : TypeId} {b0 : Bool} {A0 : Option Addr} {n0 c0 : Nat} {y : Int} (hb : Blk w p.block T #[.bool b0, .slice A0 n0 c0, .int .i64 0]) (k : w.cell? p = some (.int .i64 y)) : y = 0 := by
  unfold World.cell? at k
  unfold Blk at hb
  rw [hb] at k
  simp only at k
  split at k
  · cases k
  · match hp : p.off, k with
    | 0, h => simp at h
    | 1, h => simp at h
    | 2, h => simp at h; exact h.symm
    | i + 3, h => simp at h
/-- digits don't lie in a box whose third cell is 0 -/
theorem off_q {w : World} {b A n c z} {g : Nat} {T : TypeId} {b0 : Bool} {A0 : Option Addr} {n0 c0 : Nat} (h : ZL w b A n c z) (hb : Blk w g T #[.bool b0, .slice A0 n0 c0, .int .i64 0]) : Off g A n := by
  obtain ⟨-, L, hn, ⟨A', c', e, hc, hr⟩, hd, hz, -⟩ := h
  injection e with e1 e2 e3
  subst e1
  rcases hr with h0 | ⟨ad, rfl, hlt, hcell⟩
  · left; rw [hn, h0]; rfl
  · by_cases h0 : L = []
    · left; rw [hn, h0]; rfl
    · right
      refine ⟨ad, rfl, fun hg => ?_⟩
      have hl := List.length_pos_iff.2 h0
      have k := hcell (L.length - 1) (by omega)
      have nz := last_ne hz h0
      rw [List.getD_eq_getElem?_getD, List.getElem?_eq_getElem (by omega)] at nz
      exact nz (cell_q (by rw [block_of_add, hg]; exact hb) k)
theorem zv_off {w : World} {v : Value} {z : Int} {g : Nat} {T : TypeId} {b0 : Bool} {A0 : Option Addr} {n0 c0 : Nat} (h : ZV w v z) (hb : Blk w g T #[.bool b0, .slice A0 n0 c0, .int .i64 0]) : ∃ b A n c, v = .agg #[.bool b, .slice A n c] ∧ ZL w b A n c z ∧ Off g A n := by
  obtain ⟨b, A, n, c, e, h⟩ := h
  exact ⟨b, A, n, c, e, h, off_q h hb⟩
theorem qv_below {w w' : World} {v : Value} {z t : Int} (h : QV w v z t) (hb : Below w.heap.size w w') : QV w' v z t := by
  obtain ⟨b, A, n, c, e, h⟩ := h
  exact ⟨b, A, n, c, e, h.below hb⟩
set_option maxRecDepth 100000 in
theorem QAdd_c (va vb : Value) (a b ta tb : Int) (w : World) (ha : QV w va a ta) (hb : QV w vb b tb) (bA : a.natAbs < big 500000) (bB : b.natAbs < big 500000) (h1 : 0 ≤ ta ∧ ta ≤ 100000) (h2 : 0 ≤ tb ∧ tb ≤ 100000)
    (k1 : (up a ta tb).natAbs < big 1000000) (k2 : (up b tb ta).natAbs < big 1000000) :
    Calls Tryd.prog 12 #[va, vb] w (RetV w (up a ta tb + up b tb ta) (max ta tb)) := by
  have LVc : ∀ W, Below w.heap.size w W → Calls Tryd.prog 41 #[va, vb] W (RetLv W (up a ta tb) (up b tb ta) (max ta tb)) := fun W hW => by
    have := level_c va vb a b ta tb W (qv_below ha hW) (qv_below hb hW) bA bB h1 h2
    rw [show (max ta tb - tb) = max tb ta - tb by omega] at this
    exact this
  obtain ⟨b1, A1, n1, c1, rfl, hv1⟩ := ha
  obtain ⟨b2, A2, n2, c2, rfl, hv2⟩ := hb
  obtain ⟨W0, hW0, D0, HS, KB⟩ := qbox2 w b1 b2 A1 A2 n1 c1 n2 c2 ta tb
  have LC := Lib.hid (LVc W0 D0)
  have CP : Hid (∀ (W : World) (u v : Value), ZV W u (up a ta tb) → ZV W v (up b tb ta) → Calls Tryd.prog 42 #[u, v] W (RetZ W (up a ta tb + up b tb ta))) := fun W u v h1 h2 => ZAdd_c u v _ _ W h1 h2 k1 k2
  have HW0 := Lib.hid hW0
  have D0 := Lib.hid D0
  have KB := Lib.hid KB
  generalize up a ta tb = x at *
  generalize up b tb ta = y at *
  generalize x + y = r at *
  obtain ⟨T, hT⟩ : ∃ T, max ta tb = T := ⟨_, rfl⟩
  rw [hT] at LC ⊢
  clear hv1 hv2 hW0 bA bB h1 h2 k1 k2 LVc HS hT
  go_enter Tryd.func12, Tryd.ntmps12
  go_wp2_with (first
    | (go_at_call 41; rw [HW0.out]; (with_reducible refine (LC.out).mono ?_); rintro e w2 ⟨bx, Ax, nx, cx, by', Ay, ny, cy, rfl, hx, hy, hb⟩; have hx := (hx.alloc (.cells #[.bool bx, .slice Ax nx cx] 30)).alloc (.cells #[.bool by', .slice Ay ny cy] 30); have hy := (hy.alloc (.cells #[.bool bx, .slice Ax nx cx] 30)).alloc (.cells #[.bool by', .slice Ay ny cy] 30); have D := Lib.hid ((hb.alloc hb.size (.cells #[.bool bx, .slice Ax nx cx] 30)).alloc ((hb.alloc hb.size (.cells #[.bool bx, .slice Ax nx cx] 30)).size) (.cells #[.bool by', .slice Ay ny cy] 30)))
    | (go_at_call 42; (with_reducible refine (CP.out _ _ _ hx.v hy.v).mono ?_); rintro e w3 ⟨_, rfl, ⟨b3, A3, n3, c3, rfl, hr⟩, hb3⟩; have D := Lib.hid (D.out.trans (hb3.mono D.out.size)); have R := (KB.out _ D.out).2; have X := Lib.hid (set3 hr.zl (off_q hr.zl R) (.bool b3) (.slice A3 n3 c3) (.int .i64 T)); have f0 := R.frozen 0; have f1 := R.frozen 1; have f2 := R.frozen 2; have t0 := R.at_ 0 rfl; have t1 := R.at_ 1 rfl; have t2 := R.at_ 2 rfl))
  exact bodyPost_ret (v := .agg #[.bool b3, .slice A3 n3 c3, .int .i64 T]) (by simp [results, Tryd.results12, go_sem, t0, t1, t2]) rfl
    ⟨_, _, _, _, rfl, X.out, below3q (D0.out.trans (D.out.mono D0.out.size)) (by omega) _ _ _⟩
set_option maxRecDepth 100000 in
theorem QNeg_c (va : Value) (a ta : Int) (w : World) (ha : QV w va a ta) (bA : a.natAbs < big 1000000) :
    Calls Tryd.prog 14 #[va] w (RetV w (-a) ta) := by
  obtain ⟨b1, A1, n1, c1, rfl, hv1⟩ := ha
  obtain ⟨W0, hW0, D0, HS, KB⟩ := qbox1 w b1 A1 n1 c1 ta
  have VA : Hid (∀ W, Below W0.heap.size W0 W → ZV W (.agg #[.bool b1, .slice A1 n1 c1]) a) := fun W h => (((hv1.below D0).below h)).v
  have NG : Hid (∀ (W : World) (u : Value), ZV W u a → Calls Tryd.prog 45 #[u] W (RetZ0 W (-a))) := fun W u h1 => ZNeg_c u _ W h1 bA
  have HW0 := Lib.hid hW0
  have D0 := Lib.hid D0
  have KB := Lib.hid KB
  generalize -a = r at *
  clear hv1 bA hW0 HS
  go_enter Tryd.func14, Tryd.ntmps14
  go_upto_region 1 with fail
  rw [HW0.out]
  have D : Below W0.heap.size W0 W0.drew := (Below.refl _ _).drew
  (refine wp_region_L (S := fun w' => w'.cell? ⟨w.heap.size, 0, none⟩ = some (.bool b1) ∧ w'.cell? ⟨w.heap.size, 1, none⟩ = some (.slice A1 n1 c1) ∧ w'.cell? ⟨w.heap.size, 2, none⟩ = some (.int .i64 ta)) (nl := 1000000) (by kernel_rfl) ?_ (fun hHeld => ?_); focus (exact (KB.out _ D).1))
  (refine wpAnyL_take (i := 0) (oi := _) (v := ?_) rfl (by kernel_rfl) (by kernel_rfl) (by kernel_rfl) (fun _ _ _ h => h) (Or.inl ⟨by first | rfl | kernel_rfl, ?hy65⟩) (by assumption) ?rs65; (case hy65 => (intro w hSw; (try dsimp only at hSw); go_simp; first | done | with_reducible rfl)); case' rs65 => (simp only [List.getElem_toArray, List.getElem_cons_zero, List.getElem_cons_succ, Act.put, List.setIfInBounds_toArray, List.set_cons_zero, List.set_cons_succ])); (refine wpAnyL_take (i := 1) (oi := _) (v := ?_) rfl (by kernel_rfl) (by kernel_rfl) (by kernel_rfl) (fun _ _ _ h => h) (Or.inl ⟨by first | rfl | kernel_rfl, ?hy66⟩) (by assumption) ?rs66; (case hy66 => (intro w hSw; (try dsimp only at hSw); go_simp; first | done | with_reducible rfl)); case' rs66 => (simp only [List.getElem_toArray, List.getElem_cons_zero, List.getElem_cons_succ, Act.put, List.setIfInBounds_toArray, List.set_cons_zero, List.set_cons_succ])); (refine wpAnyL_take (i := 3) (oi := _) (v := ?_) rfl (by kernel_rfl) (by kernel_rfl) (by kernel_rfl) (fun _ _ _ h => h) (Or.inl ⟨by first | rfl | kernel_rfl, ?hy67⟩) (by assumption) ?rs67; (case hy67 => (intro w hSw; (try dsimp only at hSw); go_simp; first | done | with_reducible rfl)); case' rs67 => (simp only [List.getElem_toArray, List.getElem_cons_zero, List.getElem_cons_succ, Act.put, List.setIfInBounds_toArray, List.set_cons_zero, List.set_cons_succ])); (refine wpAnyL_take (i := 4) (oi := _) (v := ?_) rfl (by kernel_rfl) (by kernel_rfl) (by kernel_rfl) (fun _ _ _ h => h) (Or.inl ⟨by first | rfl | kernel_rfl, ?hy68⟩) (by assumption) ?rs68; (case hy68 => (intro w hSw; (try dsimp only at hSw); go_simp; first | done | with_reducible rfl)); case' rs68 => (simp only [List.getElem_toArray, List.getElem_cons_zero, List.getElem_cons_succ, Act.put, List.setIfInBounds_toArray, List.set_cons_zero, List.set_cons_succ])); skip
  (refine wpAnyL_one (i := 2) (o := _) (by kernel_rfl) rfl (fun K hK => ?_); clear hHeld; simp only [List.getElem_toArray, List.getElem_cons_zero, List.getElem_cons_succ]; go_simp; (go_at_call 45; (with_reducible refine (NG.out _ _ (VA.out _ D)).mono ?_); rintro e w2 ⟨_, rfl, hr, hb2⟩; have D1 := D.size; have D := D.trans (hb2.mono D.size); obtain ⟨b3, A3, n3, c3, rfl, hr, of⟩ := zv_off hr (KB.out _ D).2); refine hK.out _ _ ?_ (fun hHeld => ?_); focus (intro _; exact (KB.out _ D).1)); have hHeld := hHeld (by decide); clear hK K; (try simp only [Act.put, List.setIfInBounds_toArray, List.set_cons_zero, List.set_cons_succ])
  (refine wpAnyL_take (i := 5) (oi := _) (v := ?_) rfl (by kernel_rfl) (by kernel_rfl) (by kernel_rfl) (fun _ _ _ h => h) (Or.inl ⟨by first | rfl | kernel_rfl, ?hy69⟩) (by assumption) ?rs69; (case hy69 => (intro w hSw; (try dsimp only at hSw); go_simp; first | done | with_reducible rfl)); case' rs69 => (simp only [List.getElem_toArray, List.getElem_cons_zero, List.getElem_cons_succ, Act.put, List.setIfInBounds_toArray, List.set_cons_zero, List.set_cons_succ])); skip
  have R := (KB.out _ D).2
  have f0 := R.frozen 0; have f1 := R.frozen 1; have f2 := R.frozen 2; have t0 := R.at_ 0 rfl; have t1 := R.at_ 1 rfl; have t2 := R.at_ 2 rfl
  have X := Lib.hid (set3 hr of (.bool b3) (.slice A3 n3 c3) (.int .i64 ta))
  have D := Lib.hid D
  (refine wpAnyL_one (i := 6) (o := _) (by kernel_rfl) rfl (fun K hK => ?_); clear hHeld; simp only [List.getElem_toArray, List.getElem_cons_zero, List.getElem_cons_succ]; go_simp; refine hK.out _ _ ?_ (fun hHeld => ?_); focus (intro _; (obtain ⟨s0, s1, s2⟩ := (KB.out _ D.out).1; refine ⟨?_, ?_, ?_⟩ <;> (repeat rw [World.cell?_setCell_other _ _ _ _ (by simp)]) <;> assumption))); have hHeld := hHeld (by decide); clear hK K; (try simp only [Act.put, List.setIfInBounds_toArray, List.set_cons_zero, List.set_cons_succ])
  refine wpAnyL_done (by kernel_rfl) ?_ _
  go_wp2
  exact bodyPost_ret (v := .agg #[.bool b3, .slice A3 n3 c3, .int .i64 ta]) (by simp [results, Tryd.results14, go_sem, t0, t1, t2]) rfl
    ⟨_, _, _, _, rfl, X.out, below3q (D0.out.trans (D.out.mono D0.out.size)) (by omega) _ _ _⟩
end QC
end Go.Proofs.YtelblhgagpkjmaaDoor

