/-
  Package prod: Dot.
-/
import Derived.Test.YtjplemfdhhkbaaaDoorP8
namespace Go.Proofs.YtjplemfdhhkbaaaDoor
set_option linter.unusedVariables false
set_option linter.unusedSimpArgs false
open Go.RowKit Go.Shelf
set_option linter.unusedVariables false
set_option linter.unusedSimpArgs false
attribute [local go_sem] Oper.semAt_some
namespace PC
open L NC NK DC RC SC
/-- Dot's total over some of the pairs -/
def fo (L : List Int) {m : Nat} (pre : List (Fin m)) : Dy := pre.foldl (fun d x => (DC.Add d (PD (L.getD (2 * x.1) 0) (L.getD (2 * x.1 + 1) 0)).d).d) dz
theorem fo_snoc (L : List Int) {m : Nat} (pre : List (Fin m)) (x : Fin m) : fo L (pre ++ [x]) = (DC.Add (fo L pre) (PD (L.getD (2 * x.1) 0) (L.getD (2 * x.1 + 1) 0)).d).d := by simp [fo]
theorem fo_nat (L : List Int) : ∀ {m : Nat} (pre : List (Fin m)), fo L pre = (pre.map (·.1)).foldl (fun d k => (DC.Add d (PD (L.getD (2 * k) 0) (L.getD (2 * k + 1) 0)).d).d) dz := by
  intro m pre
  unfold fo
  rw [List.foldl_map]
theorem pt_range (L : List Int) : ∀ (k : Nat), 2 * k ≤ L.length → (List.range k).foldl (fun d k => (DC.Add d (PD (L.getD (2 * k) 0) (L.getD (2 * k + 1) 0)).d).d) dz = pt (L.take (2 * k)) dz
  | 0, _ => by simp [pt]
  | k + 1, h => by
    rw [List.range_succ, List.foldl_append, pt_range L k (by omega)]
    have e : L.take (2 * (k + 1)) = L.take (2 * k) ++ [L.getD (2 * k) 0, L.getD (2 * k + 1) 0] := by
      rw [show 2 * (k + 1) = 2 * k + 1 + 1 by omega, List.take_add_one, List.take_add_one, List.append_assoc]
      congr 1
      rw [List.getD_eq_getElem?_getD, List.getD_eq_getElem?_getD, List.getElem?_eq_getElem (by omega : 2 * k < L.length), List.getElem?_eq_getElem (by omega : 2 * k + 1 < L.length)]
      rfl
    rw [e, pt_append _ _ _ (by rw [List.length_take]; omega)]
    rfl
theorem fo_all (L : List Int) {m : Nat} (xs : List (Fin m)) (h : xs.map (·.1) = List.range m) (hl : L.length = 2 * m) : fo L xs = pt L dz := by
  rw [fo_nat, h, pt_range L m (by omega), List.take_of_length_le (by omega)]
theorem PD_e (x y : Int) : (PD x y).e = 4 ∨ (F.exq x ≠ 2047 ∧ F.exq y ≠ 2047) := by
  unfold PD
  by_cases h : F.exq x = 2047 ∨ F.exq y = 2047
  · rw [if_pos h]; exact .inl rfl
  · exact .inr (by omega)
theorem PD_e0 {x y : Int} (hx : 0 ≤ x ∧ x ≤ 18446744073709551615) (hy : 0 ≤ y ∧ y ≤ 18446744073709551615) : ((PD x y).e = 0 ∧ F.exq x ≠ 2047 ∧ F.exq y ≠ 2047) ∨ ((PD x y).e = 4 ∧ (F.exq x = 2047 ∨ F.exq y = 2047)) := by
  by_cases h : F.exq x = 2047 ∨ F.exq y = 2047
  · right; refine ⟨?_, h⟩; unfold PD; rw [if_pos h]
  · left
    exact ⟨(pd_p ⟨hx.1, hx.2, by omega⟩ ⟨hy.1, hy.2, by omega⟩ rfl).1, by omega, by omega⟩
theorem nf_of {L : List Int} {k : Nat} (hk : 2 * k + 1 < L.length) (h : F.exq (L.getD (2 * k) 0) = 2047 ∨ F.exq (L.getD (2 * k + 1) 0) = 2047) : nf L = true := by
  unfold nf
  rw [List.any_eq_true]
  rcases h with h | h
  · refine ⟨L.getD (2 * k) 0, ?_, by simpa using h⟩
    rw [List.getD_eq_getElem?_getD, List.getElem?_eq_getElem (by omega : 2 * k < L.length)]; exact List.getElem_mem _
  · refine ⟨L.getD (2 * k + 1) 0, ?_, by simpa using h⟩
    rw [List.getD_eq_getElem?_getD, List.getElem?_eq_getElem hk]; exact List.getElem_mem _
theorem nf_all {L : List Int} {m : Nat} (hl : L.length = 2 * m) (h : ∀ k, k < m → F.exq (L.getD (2 * k) 0) ≠ 2047 ∧ F.exq (L.getD (2 * k + 1) 0) ≠ 2047) : nf L = false := by
  unfold nf
  rw [List.any_eq_false]
  intro x hx
  obtain ⟨j, hj, rfl⟩ := List.getElem_of_mem hx
  have e : ∀ i (hi : i < L.length), L.getD i 0 = L[i] := fun i hi => by rw [List.getD_eq_getElem?_getD, List.getElem?_eq_getElem hi]; rfl
  have hk := h (j / 2) (by omega)
  rcases Nat.mod_two_eq_zero_or_one j with h2 | h2
  · have : 2 * (j / 2) = j := by omega
    rw [this, e j hj] at hk
    simpa using hk.1
  · have : 2 * (j / 2) + 1 = j := by omega
    rw [this, e j hj] at hk
    simpa using hk.2
/-- a block that is no cells turns -/
theorem Sl.turn {k : IntKind} {w w' : World} {s : Value} {L : List Int} {row : Option Nat} (h : Sl k w s L) (hg : w.grownBy w' row) (hr : ∀ r, row = some r → ∃ o : Obj, w.heap[r]? = some o ∧ o.isCells = false) : Sl k w' s L := by
  obtain ⟨A, c, e, hc, h⟩ := h
  refine ⟨A, c, e, hc, ?_⟩
  rcases h with h | ⟨ad, rfl, hb, hrow⟩
  · exact .inl h
  · exact .inr ⟨ad, rfl, Nat.lt_of_lt_of_le hb hg.size, fun j hj => cell_kept (hrow j hj) hg hr⟩
theorem GV.turn {w w' : World} {b : Bool} {A : Option Addr} {n c : Nat} {x : Int} {d : Dy} {row : Option Nat} (h : GV w b A n c x d) (hg : w.grownBy w' row) (hr : ∀ r, row = some r → ∃ o : Obj, w.heap[r]? = some o ∧ o.isCells = false) : GV w' b A n c x d := by
  obtain ⟨⟨l, h1, h2⟩, h3⟩ := h
  exact ⟨⟨l, Sl.turn h1 hg hr, h2⟩, h3⟩
theorem Blk.turn {w w' : World} {g : Nat} {t : TypeId} {cs : Array Value} {row : Option Nat} (h : Blk w g t cs) (hg : w.grownBy w' row) (hr : ∀ r, row = some r → ∃ o : Obj, w.heap[r]? = some o ∧ o.isCells = false) : Blk w' g t cs :=
  (hg.block g h.lt (fun e => by
    obtain ⟨o, ho, hc⟩ := hr g e.symm
    unfold Blk at h
    rw [h] at ho
    injection ho with ho
    subst ho
    cases hc)).trans h
/-- what Dot's loop keeps: the results' cells, the total -/
structure DI (w0 : World) (R T N : Nat) (L : List Int) {m : Nat} (pre : List (Fin m)) (W : World) : Prop where
  r0 : Blk W R 22 #[.int .u64 0]
  r1 : Blk W (R + 1) 4 #[.bool false]
  r2 : Blk W (R + 1 + 1) 26 #[.int .i64 0]
  tot : ∃ b A n c x, Blk W T 25 #[.bool b, .slice A n c, .int .i64 x] ∧ GV W b A n c x (fo L pre)
  ok : ∀ x ∈ pre, (PD (L.getD (2 * x.1) 0) (L.getD (2 * x.1 + 1) 0)).e = 0
  bel : Below w0.heap.size w0 W
  sz : N ≤ W.heap.size
theorem DI.turn {w0 W W' : World} {R T N : Nat} {L : List Int} {m B : Nat} {pre : List (Fin m)} {row : Option Nat} (h : DI w0 R T N L pre W) (hB : w0.heap.size ≤ B) (hg : W.grownBy W' row) (hr : ∀ r, row = some r → B ≤ r ∧ ∃ o : Obj, W.heap[r]? = some o ∧ o.isCells = false) : DI w0 R T N L pre W' := by
  have hr' : ∀ r, row = some r → ∃ o : Obj, W.heap[r]? = some o ∧ o.isCells = false := fun r e => (hr r e).2
  obtain ⟨b, A, n, c, x, h1, h2⟩ := h.tot
  exact ⟨Blk.turn h.r0 hg hr', Blk.turn h.r1 hg hr', Blk.turn h.r2 hg hr', ⟨b, A, n, c, x, Blk.turn h1 hg hr', GV.turn h2 hg hr'⟩, h.ok, h.bel.grown hg h.bel.size (fun r e => Nat.le_trans hB (hr r e).1), Nat.le_trans h.sz hg.size⟩
/-- Dot has come to one that has no value -/
structure DX (w0 : World) (R : Nat) (L : List Int) {m : Nat} (pre : List (Fin m)) (W : World) : Prop where
  r0 : Blk W R 22 #[.int .u64 0]
  r1 : Blk W (R + 1) 4 #[.bool false]
  r2 : Blk W (R + 1 + 1) 26 #[.int .i64 4]
  no : ∃ x : Fin m, (PD (L.getD (2 * x.1) 0) (L.getD (2 * x.1 + 1) 0)).e ≠ 0
  bel : Below w0.heap.size w0 W
theorem DX.turn {w0 W W' : World} {R : Nat} {L : List Int} {m B : Nat} {pre : List (Fin m)} {row : Option Nat} (h : DX w0 R L pre W) (hB : w0.heap.size ≤ B) (hg : W.grownBy W' row) (hr : ∀ r, row = some r → B ≤ r ∧ ∃ o : Obj, W.heap[r]? = some o ∧ o.isCells = false) : DX w0 R L pre W' := by
  have hr' : ∀ r, row = some r → ∃ o : Obj, W.heap[r]? = some o ∧ o.isCells = false := fun r e => (hr r e).2
  exact ⟨Blk.turn h.r0 hg hr', Blk.turn h.r1 hg hr', Blk.turn h.r2 hg hr', h.no, h.bel.grown hg h.bel.size (fun r e => Nat.le_trans hB (hr r e).1)⟩
/-- behind the results' boxes -/
theorem three0 (w : World) : ∃ W0, ((w.alloc (.cells #[.int .u64 0] 22)).alloc (.cells #[.bool false] 4)).alloc (.cells #[.int .i64 0] 26) = W0 ∧ Below w.heap.size w W0 ∧ W0.heap.size = w.heap.size + 3 ∧
    Blk W0 w.heap.size 22 #[.int .u64 0] ∧ Blk W0 (w.heap.size + 1) 4 #[.bool false] ∧ Blk W0 (w.heap.size + 1 + 1) 26 #[.int .i64 0] := by
  refine ⟨_, rfl, ((al1 w _).trans ((al1 _ _).mono (by simp))).trans ((al1 _ _).mono (by simp; omega)), by simp, ((Blk.new w _ _).alloc _).alloc _, ?_, ?_⟩
  · exact (Blk.new' (w.alloc (.cells #[.int .u64 0] 22)) 4 #[.bool false] (by simp)).alloc _
  · exact Blk.new' _ 26 #[.int .i64 0] (by simp)
/-- behind the total's box and those of the iterator -/
theorem nine0 (w : World) (A : Option Addr) (n c : Nat) : ∃ W9, ((w.alloc (.cells #[.bool false, .slice none 0 0, .int .i64 0] 25)).alloc (.cells #[.slice A n c] 65)).alloc (.cells #[.int .i64 2] 3) = W9 ∧ Below w.heap.size w W9 ∧ W9.heap.size = w.heap.size + 3 ∧
    Blk W9 w.heap.size 25 #[.bool false, .slice none 0 0, .int .i64 0] ∧ W9.cell? ⟨w.heap.size + 1, 0, none⟩ = some (.slice A n c) ∧ W9.cell? ⟨w.heap.size + 1 + 1, 0, none⟩ = some (.int .i64 2) := by
  refine ⟨_, rfl, ((al1 w _).trans ((al1 _ _).mono (by simp))).trans ((al1 _ _).mono (by simp; omega)), by simp, ((Blk.new w _ _).alloc _).alloc _, ?_, ?_⟩
  · exact ((Blk.new' (w.alloc (.cells #[.bool false, .slice none 0 0, .int .i64 0] 25)) 65 #[.slice A n c] (by simp)).alloc _).at_ 0 rfl
  · exact (Blk.new' _ 3 #[.int .i64 2] (by simp)).at_ 0 rfl
theorem KeepsFrom.of_below {B : Nat} {W W' : World} (h : Below W.heap.size W W') : KeepsFrom B W W' := ⟨h.size, fun k o _ hk _ => (h.block k (Array.getElem?_eq_some_iff.1 hk).1).trans hk⟩
theorem KeepsFrom.set3 {B : Nat} {W W' : World} (h : KeepsFrom B W W') (p q r : Addr) (u v x : Value) : KeepsFrom B W (((W'.setCell p u).setCell q v).setCell r x) :=
  ((h.trans ((KeepsOthers.setCell _ _ _).from B)).trans ((KeepsOthers.setCell _ _ _).from B)).trans ((KeepsOthers.setCell _ _ _).from B)
theorem heap_far (W : World) (g : Nat) (i : Nat) (u : Value) {b : Nat} (h : b ≠ g) : (W.setCell ⟨g, i, none⟩ u).heap[b]? = W.heap[b]? := Below.heap_setCell W ⟨g, i, none⟩ u b h
theorem Kc.step {n₀ B1 B2 N : Nat} {W W' : World} (hN : N ≤ W.heap.size) (h0 : n₀ ≤ N) (h1 : B1 < N) (h2 : B2 < N) (hb : Below W.heap.size W W') {T : Nat} (hT : n₀ ≤ T) (hT1 : B1 ≠ T) (hT2 : B2 ≠ T) (u v x : Value) :
    Kc n₀ B1 B2 W (((W'.setCell ⟨T, 0, none⟩ u).setCell ⟨T, 1, none⟩ v).setCell ⟨T, 2, none⟩ x) := by
  refine ⟨(((hb.mono (by omega)).setCell hT _).setCell hT _).setCell hT _, by simp; exact hb.size, ?_, ?_⟩
  · rw [heap_far _ _ _ _ hT1, heap_far _ _ _ _ hT1, heap_far _ _ _ _ hT1]; exact hb.block _ (by omega)
  · rw [heap_far _ _ _ _ hT2, heap_far _ _ _ _ hT2, heap_far _ _ _ _ hT2]; exact hb.block _ (by omega)
theorem DI.next {w0 W w6 : World} {R T N : Nat} {L : List Int} {m : Nat} {pre : List (Fin m)} {x : Fin m} {b0 : Bool} {A0 : Option Addr} {n0 c0 : Nat} {x0 : Int} {b6 : Bool} {A6 : Option Addr} {n6 c6 : Nat} {x6 : Int} (h : DI w0 R T N L pre W) (hb : Below W.heap.size W w6)
    (h6 : Blk w6 T 25 #[.bool b0, .slice A0 n0 c0, .int .i64 x0]) (v6 : GV w6 b6 A6 n6 c6 x6 (fo L (pre ++ [x]))) (e : (PD (L.getD (2 * x.1) 0) (L.getD (2 * x.1 + 1) 0)).e = 0) (h1 : R + 1 + 1 < T) (h2 : w0.heap.size ≤ R) :
    DI w0 R T N L (pre ++ [x]) (((w6.setCell ⟨T, 0, none⟩ (.bool b6)).setCell ⟨T, 1, none⟩ (.slice A6 n6 c6)).setCell ⟨T, 2, none⟩ (.int .i64 x6)) := by
  refine ⟨?_, ?_, ?_, ⟨_, _, _, _, _, Blk3 h6 _ _ _, v6.set3 h6 _ _ _ (by intro z h; cases h) (by intro z h; cases h)⟩, ?_, below3 (h.bel.trans (hb.mono h.bel.size)) (by omega) _ _ _, ?_⟩
  · exact (((h.r0.below hb h.r0.lt).far (by simp; omega) _).far (by simp; omega) _).far (by simp; omega) _
  · exact (((h.r1.below hb h.r1.lt).far (by simp; omega) _).far (by simp; omega) _).far (by simp; omega) _
  · exact (((h.r2.below hb h.r2.lt).far (by simp; omega) _).far (by simp; omega) _).far (by simp; omega) _
  · intro y hy
    rcases List.mem_append.1 hy with hy | hy
    · exact h.ok y hy
    · simp at hy; subst hy; exact e
  · simp; exact Nat.le_trans h.sz hb.size
theorem DX.of {w0 W V : World} {R : Nat} {L : List Int} {m : Nat} {pre : List (Fin m)} {z : Value} (k0 : Blk V R 22 #[.int .u64 0]) (k1 : Blk V (R + 1) 4 #[.bool false]) (k2 : Blk V (R + 1 + 1) 26 #[z]) (hb : Below w0.heap.size w0 W) (hv : Below W.heap.size W V) (x : Fin m)
    (e : (PD (L.getD (2 * x.1) 0) (L.getD (2 * x.1 + 1) 0)).e ≠ 0) (h2 : w0.heap.size ≤ R) : DX w0 R L pre (((V.setCell ⟨R, 0, none⟩ (.int .u64 0)).setCell ⟨R + 1, 0, none⟩ (.bool false)).setCell ⟨R + 1 + 1, 0, none⟩ (.int .i64 4)) := by
  refine ⟨?_, ?_, ?_, ⟨x, e⟩, (((hb.trans (hv.mono hb.size)).setCell h2 _).setCell (by simp; omega) _).setCell (by simp; omega) _⟩
  · have := k0.set_ 0 (.int .u64 0)
    exact (this.far (by simp) _).far (by simp; omega) _
  · have := (k1.far (p := ⟨R, 0, none⟩) (by simp) (.int .u64 0)).set_ 0 (.bool false)
    exact this.far (by simp) _
  · have := ((k2.far (p := ⟨R, 0, none⟩) (by simp; omega) (.int .u64 0)).far (p := ⟨R + 1, 0, none⟩) (by simp) (.bool false)).set_ 0 (.int .i64 4)
    exact this
theorem res3 {V : World} {R : Nat} {z0 z1 z2 : Value} (k0 : Blk V R 22 #[z0]) (k1 : Blk V (R + 1) 4 #[z1]) (k2 : Blk V (R + 1 + 1) 26 #[z2]) (a b c : Value) :
    Blk (((V.setCell ⟨R, 0, none⟩ a).setCell ⟨R + 1, 0, none⟩ b).setCell ⟨R + 1 + 1, 0, none⟩ c) R 22 #[a] ∧ Blk (((V.setCell ⟨R, 0, none⟩ a).setCell ⟨R + 1, 0, none⟩ b).setCell ⟨R + 1 + 1, 0, none⟩ c) (R + 1) 4 #[b] ∧ Blk (((V.setCell ⟨R, 0, none⟩ a).setCell ⟨R + 1, 0, none⟩ b).setCell ⟨R + 1 + 1, 0, none⟩ c) (R + 1 + 1) 26 #[c] := by
  refine ⟨?_, ?_, ?_⟩
  · have := k0.set_ 0 a
    exact (this.far (by simp) _).far (by simp; omega) _
  · have := (k1.far (p := ⟨R, 0, none⟩) (by simp) a).set_ 0 b
    exact this.far (by simp) _
  · have := ((k2.far (p := ⟨R, 0, none⟩) (by simp; omega) a).far (p := ⟨R + 1, 0, none⟩) (by simp) b).set_ 0 c
    exact this
set_option maxRecDepth 100000 in
set_option maxHeartbeats 4000000 in
theorem Dot_c (A : Option Addr) (n c : Nat) (L : List Int) (mode : Int) (w : World) (hs : Sl .u64 w (.slice A n c) L) (hu : u64s L) (hl : L.length ≤ 9223372036854775807) (hT : TabD w) :
    Calls Tryd.prog 41 #[.slice A n c, .int .i64 mode] w (DC.RetB w (ATv (DT L mode))) := by
  have HS := Lib.hid hs
  obtain ⟨A', c', e, hc, hcell⟩ := hs.open_
  injection e with e1 e2 e3
  subst e1
  subst e3
  rw [← e2] at hl hc
  have hA : A = none → n = 0 := fun h => by
    rcases Nat.eq_zero_or_pos n with h0 | h0
    · exact h0
    · obtain ⟨ad, h2, -⟩ := hcell 0 (by rw [← e2]; exact h0)
      rw [h] at h2; cases h2
  have HN := Lib.hid e2
  obtain ⟨W0, hW0, D0, SZ, R0, R1, R2⟩ := three0 w
  have CM := Lib.hid (checkModeP_c mode W0 (hT.below D0))
  have HW0 := Lib.hid hW0
  have K0 : Hid (∀ W, Below W0.heap.size W0 W → Blk W w.heap.size 22 #[.int .u64 0] ∧ Blk W (w.heap.size + 1) 4 #[.bool false] ∧ Blk W (w.heap.size + 1 + 1) 26 #[.int .i64 0] ∧ Below w.heap.size w W) := fun W hW => ⟨R0.below hW R0.lt, R1.below hW R1.lt, R2.below hW R2.lt, D0.trans (hW.mono D0.size)⟩
  clear hs hcell R0 R1 R2
  refine (callsIn_wide (n := 5)).1 ?_
  refine callsIn_of_wp_marks Tryd.func41 rfl trivial ?_ rfl
  simp only [Tryd.ntmps41, List.size_toArray, List.length_cons, List.length_nil, Nat.reduceAdd, Nat.reduceSub, Array.replicate_succ, Array.replicate_zero, List.push_toArray, List.append_toArray, List.nil_append, List.cons_append]
  by_cases hm : 0 ≤ mode ∧ mode ≤ 4
  · rw [if_pos hm] at CM
    by_cases h2 : L.length % 2 = 0
    · have hn2 : (n : Int) % 2 = 0 := by omega
      by_cases h3 : 200 < L.length
      · rw [DT_large hm h2 h3]
        unfold ATv
        have h3' : (n : Int) > 200 := by omega
        clear hT hm hW0 hA h2 h3 e2 D0
        gi_wp2_with (first
          | (refine ⟨trivial, ?_⟩; gi_at_call 88; rw [HW0.out]; (with_reducible refine (callsIn_wide.2 CM.out).mono ?_); rintro e w1 ⟨rfl, hb⟩; have D1 := Lib.hid hb; clear hb; obtain ⟨k0, k1, k2, kb⟩ := K0.out _ D1.out; have t0 := k0.at_ 0 rfl; have t1 := k1.at_ 0 rfl; have t2 := k2.at_ 0 rfl; have f0 := k0.frozen 0; have f1 := k1.frozen 0; have f2 := k2.frozen 0; have KK := Lib.hid (And.intro k0 (And.intro k1 (And.intro k2 kb))); clear k0 k1 k2 kb))
        exact ⟨.tuple #[.int .u64 0, .bool false, .int .i64 2], by simp [results, Tryd.results41, go_sem, t0, t1, t2], rfl, ((KK.out.2.2.2.setCell (by simp) _).setCell (by simp) _).setCell (by first | omega | (simp; done) | (simp; omega)) _⟩
      · obtain ⟨m, hm2⟩ : ∃ m, L.length = 2 * m := ⟨L.length / 2, by omega⟩
        have h3' : ¬ (n : Int) > 200 := by have := HN.out; omega
        have HM := Lib.hid hm
        have HE := Lib.hid hm2
        have hTw := Lib.hid hT
        clear hT hm h2 h3 hm2 hW0 e2 D0
        gi_wp2_with (first
          | (refine ⟨trivial, ?_⟩; gi_at_call 88; rw [HW0.out]; (with_reducible refine (callsIn_wide.2 CM.out).mono ?_); rintro e w1 ⟨rfl, hb⟩; have D1 := Lib.hid hb; clear hb; obtain ⟨k0, k1, k2, kb⟩ := K0.out _ D1.out; have t0 := k0.at_ 0 rfl; have t1 := k1.at_ 0 rfl; have t2 := k2.at_ 0 rfl; have f0 := k0.frozen 0; have f1 := k1.frozen 0; have f2 := k2.frozen 0; have KK := Lib.hid (And.intro k0 (And.intro k1 (And.intro k2 kb))); clear k0 k1 k2 kb)
          | (refine ⟨trivial, ?_⟩; gi_at_call 89; refine (chunk_in _ _ _ _ _).mono ?_; rintro e w2 ⟨rfl, rfl⟩))
        obtain ⟨W9, hW9, D9, Z9, T9, c1, c2⟩ := nine0 w1 A n c
        rw [hW9]
        have D9 := D1.out.trans (D9.mono D1.out.size)
        have hzz := D1.out.size
        have k9 := K0.out _ D9
        have HTT : Hid (∀ W, Below w.heap.size w W → TabD W) := fun W hW => hTw.out.below hW
        refine wpIn_rangeFunc_ownG rfl (by omega) (gf := 113) (lb := #[.pointer (some ⟨w1.heap.size + 1, 0, none⟩), .pointer (some ⟨w1.heap.size + 1 + 1, 0, none⟩)]) rfl trivial (enters_of Tryd.func113 (by kernel_rfl) rfl)
          (chunk_stops _ (by omega) (w1.heap.size + 1) (w1.heap.size + 1 + 1) w.heap.size m n c A hA (by have := HN.out; have := HE.out; omega) (by have := HN.out; have := HE.out; omega) hc W9 (by omega) (by omega) c1 c2)
          (fun h k => Kc.trans h k) (Kc.put (w := W9) (by omega) (by omega) (by omega)) (Below.refl _ _) (fun _ => rfl)
          (fun pre W => DI w w.heap.size w1.heap.size (w1.heap.size + 3) L pre W) (fun cc pre W => cc = .ret ∧ DX w w.heap.size L pre W)
          (fun s X Y row hs hg hr => DI.turn hs (by omega) hg hr) (fun cc s X Y row hs hg hr => ⟨hs.1, DX.turn hs.2 (by omega) hg hr⟩)
          ⟨k9.1, k9.2.1, k9.2.2.1, ⟨_, _, _, _, _, T9, GV.zero _⟩, by simp, k9.2.2.2, by omega⟩
          (fun x => { tmps := #[.slice A n c, .int .i64 mode, undef, undef, .pointer (some ⟨w.heap.size, 0, none⟩), .pointer (some ⟨w.heap.size + 1, 0, none⟩), .pointer (some ⟨w.heap.size + 1 + 1, 0, none⟩), .int .i64 0, .pointer (some ⟨w1.heap.size, 0, none⟩), .slice (some ((ad0 A).add (2 * x.1))) 2 2, undef, undef, .int .i64 mode, .int .i64 0, .int .i64 0, .bool false, undef, .bool false, .slice A n c, .int .i64 n, .int .i64 0, .bool false, .bool (decide ((200 : Int) < n)), .slice A n c, .int .i64 n, .bool (decide ((200 : Int) < n)), .slice A n c, .func (.func 113) #[] #[.pointer (some ⟨w1.heap.size + 1, 0, none⟩), .pointer (some ⟨w1.heap.size + 1 + 1, 0, none⟩)], .slice (some ((ad0 A).add (2 * x.1))) 2 2, undef, undef, undef, undef, undef, undef, undef, undef, undef, undef, undef, undef, undef, undef, undef, undef, undef, undef, undef, undef, undef, undef, undef, undef, undef], defers := [] }) ?assign ?body ?done ?stop
        case assign =>
          intro l x W K hK
          simp only [ec]
          gi_wp2
          exact hK
        case body =>
          rintro l pre x W hI hlen
          have hx := x.2
          have hn := HN.out
          have he := HE.out
          obtain ⟨ad, c', e, hc', hb', hcell⟩ := (HS.out.below hI.bel).at_ (2 * x.1) (by omega)
          obtain ⟨ad', c'', e', -, -, hcell'⟩ := (HS.out.below hI.bel).at_ (2 * x.1 + 1) (by omega)
          injection e with e1 e2 e3
          injection e' with e1' e2' e3'
          subst e1
          obtain rfl := Option.some.inj e1'
          rw [show ad.add (2 * x.1 + 1) = (ad.add (2 * x.1)).add 1 by rw [add_of_add]] at hcell'
          have ux := u64s_at hu (2 * x.1)
          have uy := u64s_at hu (2 * x.1 + 1)
          have hblk : (ad.add (2 * x.1)).block < W.heap.size := by rw [block_of_add]; exact hb'
          have hblk' : ((ad.add (2 * x.1)).add 1).block < W.heap.size := by rw [block_of_add]; exact hblk
          have pe := PD_e0 ux uy
          obtain ⟨bt, At, nt, ct, xt, TB, TV⟩ := hI.tot
          have hfs := fo_snoc L pre x
          simp only [ad0, Option.getD_some]
          generalize hap : ad.add (2 * x.1) = ap at *
          have EX : Hid (∀ V, Below W.heap.size W V → Calls Tryd.prog 90 #[.int .u64 (L.getD (2 * x.1) 0), .int .u64 (L.getD (2 * x.1 + 1) 0)] V (RetD V (PD (L.getD (2 * x.1) 0) (L.getD (2 * x.1 + 1) 0)))) := fun V hV => exact_c _ _ V ux uy (HTT.out _ (hI.bel.trans (hV.mono hI.bel.size)))
          have HC : Hid (∀ V, Below W.heap.size W V → V.cell? ap = some (.int .u64 (L.getD (2 * x.1) 0)) ∧ V.cell? ⟨ap.block, ap.off + 1, none⟩ = some (.int .u64 (L.getD (2 * x.1 + 1) 0))) := fun V hV => ⟨(hV.cell hblk).trans hcell, (hV.cell hblk').trans hcell'⟩
          have AD : Hid (∀ (V : World) (u v : Value), DV V u (fo L pre) → DV V v (PD (L.getD (2 * x.1) 0) (L.getD (2 * x.1 + 1) 0)).d → Below W.heap.size W V → ∃ re, Calls Tryd.prog 29 #[u, v] V (RetD V ⟨re, fo L (pre ++ [x])⟩)) := fun V u v h1 h2 hV => ⟨(DC.Add (fo L pre) (PD (L.getD (2 * x.1) 0) (L.getD (2 * x.1 + 1) 0)).d).e, by
            have := Add_d u v _ _ V h1 h2 (HTT.out _ (hI.bel.trans (hV.mono hI.bel.size)))
            rw [hfs]; exact this⟩
          have RR : Hid (∀ V, Below W.heap.size W V → Blk V w.heap.size 22 #[.int .u64 0] ∧ Blk V (w.heap.size + 1) 4 #[.bool false] ∧ Blk V (w.heap.size + 1 + 1) 26 #[.int .i64 0]) := fun V hV => ⟨hI.r0.below hV hI.r0.lt, hI.r1.below hV hI.r1.lt, hI.r2.below hV hI.r2.lt⟩
          have hI := Lib.hid (And.intro TB (And.intro TV hI))
          obtain ⟨pr, hpr⟩ : ∃ pr, PD (L.getD (2 * x.1) 0) (L.getD (2 * x.1 + 1) 0) = pr := ⟨_, rfl⟩
          have HE0 : Hid (pr.e = 0 → (PD (L.getD (2 * x.1) 0) (L.getD (2 * x.1 + 1) 0)).e = 0) := fun h => by rw [hpr]; exact h
          have HE4 : Hid (pr.e = 4 → (PD (L.getD (2 * x.1) 0) (L.getD (2 * x.1 + 1) 0)).e ≠ 0) := fun h => by rw [hpr, h]; decide
          rw [hpr] at EX AD pe
          obtain ⟨xa, hxa⟩ : ∃ xa, L.getD (2 * x.1) 0 = xa := ⟨_, rfl⟩
          obtain ⟨ya, hya⟩ : ∃ ya, L.getD (2 * x.1 + 1) 0 = ya := ⟨_, rfl⟩
          rw [hxa, hya] at EX HC
          have pe' : pr.e = 0 ∨ pr.e = 4 := by rcases pe with h | h; exact .inl h.1; exact .inr h.1
          obtain ⟨pre_, dp⟩ := pr
          dsimp only at pe' HE0 HE4 AD
          have DW0 : Below W.heap.size W W.drew := (Below.refl _ _).drew
          clear hn he hc' e2 e2' e3 e3' e1' pe hxa hya hpr hcell hcell' hblk hblk' hfs ux uy TB TV hu hb' hap
          gi_wp2
          rcases pe' with rfl | rfl
          · refine wpIn_region_L (S := fun w' => w'.cell? ap = some (.int .u64 xa) ∧ w'.cell? ⟨ap.block, ap.off + 1, none⟩ = some (.int .u64 ya)) (nl := 1000000) (by kernel_rfl) (by kernel_rfl) ?_ (HC.out _ DW0) (fun hHeld => ?_)
            · rintro ⟨_, _, h⟩; exact h
            (refine wpAnyL_take (i := 0) (oi := _) (v := ?_) rfl (by kernel_rfl) (by kernel_rfl) (by kernel_rfl) (fun _ _ _ h => h) (Or.inl ⟨by first | rfl | kernel_rfl, ?hy1⟩) (by assumption) ?rs1; (case hy1 => (intro w hSw; (try dsimp only at hSw); go_simp; first | done | with_reducible rfl)); case' rs1 => (simp only [List.getElem_toArray, List.getElem_cons_zero, List.getElem_cons_succ, Act.put, List.setIfInBounds_toArray, List.set_cons_zero, List.set_cons_succ])); (refine wpAnyL_take (i := 1) (oi := _) (v := ?_) rfl (by kernel_rfl) (by kernel_rfl) (by kernel_rfl) (fun _ _ _ h => h) (Or.inl ⟨by first | rfl | kernel_rfl, ?hy2⟩) (by assumption) ?rs2; (case hy2 => (intro w hSw; (try dsimp only at hSw); go_simp; first | done | with_reducible rfl)); case' rs2 => (simp only [List.getElem_toArray, List.getElem_cons_zero, List.getElem_cons_succ, Act.put, List.setIfInBounds_toArray, List.set_cons_zero, List.set_cons_succ])); (refine wpAnyL_take (i := 2) (oi := _) (v := ?_) rfl (by kernel_rfl) (by kernel_rfl) (by kernel_rfl) (fun _ _ _ h => h) (Or.inl ⟨by first | rfl | kernel_rfl, ?hy3⟩) (by assumption) ?rs3; (case hy3 => (intro w hSw; (try dsimp only at hSw); go_simp; first | done | with_reducible rfl)); case' rs3 => (simp only [List.getElem_toArray, List.getElem_cons_zero, List.getElem_cons_succ, Act.put, List.setIfInBounds_toArray, List.set_cons_zero, List.set_cons_succ])); (refine wpAnyL_take (i := 3) (oi := _) (v := ?_) rfl (by kernel_rfl) (by kernel_rfl) (by kernel_rfl) (fun _ _ _ h => h) (Or.inl ⟨by first | rfl | kernel_rfl, ?hy4⟩) (by assumption) ?rs4; (case hy4 => (intro w hSw; (try dsimp only at hSw); go_simp; first | done | with_reducible rfl)); case' rs4 => (simp only [List.getElem_toArray, List.getElem_cons_zero, List.getElem_cons_succ, Act.put, List.setIfInBounds_toArray, List.set_cons_zero, List.set_cons_succ])); (refine wpAnyL_take (i := 4) (oi := _) (v := ?_) rfl (by kernel_rfl) (by kernel_rfl) (by kernel_rfl) (fun _ _ _ h => h) (Or.inl ⟨by first | rfl | kernel_rfl, ?hy5⟩) (by assumption) ?rs5; (case hy5 => (intro w hSw; (try dsimp only at hSw); go_simp; first | done | with_reducible rfl)); case' rs5 => (simp only [List.getElem_toArray, List.getElem_cons_zero, List.getElem_cons_succ, Act.put, List.setIfInBounds_toArray, List.set_cons_zero, List.set_cons_succ])); (refine wpAnyL_take (i := 5) (oi := _) (v := ?_) rfl (by kernel_rfl) (by kernel_rfl) (by kernel_rfl) (fun _ _ _ h => h) (Or.inl ⟨by first | rfl | kernel_rfl, ?hy6⟩) (by assumption) ?rs6; (case hy6 => (intro w hSw; (try dsimp only at hSw); go_simp; first | done | with_reducible rfl)); case' rs6 => (simp only [List.getElem_toArray, List.getElem_cons_zero, List.getElem_cons_succ, Act.put, List.setIfInBounds_toArray, List.set_cons_zero, List.set_cons_succ])); skip
            refine wpAnyL_two (i := 6) (j := 10) (oi := _) (oj := _) (by kernel_rfl) rfl rfl (fun K hK => ?_) (fun K hK => ?_)
            · (clear hHeld; simp only [List.getElem_toArray, List.getElem_cons_zero, List.getElem_cons_succ]; go_simp; (go_at_call 90; (with_reducible refine (EX.out _ DW0).mono ?_); rintro e w4 ⟨b4, A4, n4, c4, x4, rfl, hv4, hb4⟩; have DW : Below W.heap.size W w4 := DW0.trans hb4); refine hK.out _ _ ?_ (fun hHeld => ?_); focus (intro _; exact HC.out _ DW)); have hHeld := hHeld (by decide); clear hK K; (try simp only [Act.put, List.setIfInBounds_toArray, List.set_cons_zero, List.set_cons_succ])
              (refine wpAnyL_take (i := 7) (oi := _) (v := ?_) rfl (by kernel_rfl) (by kernel_rfl) (by kernel_rfl) (fun _ _ _ h => h) (Or.inl ⟨by first | rfl | kernel_rfl, ?hy7⟩) (by assumption) ?rs7; (case hy7 => (intro w hSw; (try dsimp only at hSw); go_simp; first | done | with_reducible rfl)); case' rs7 => (simp only [List.getElem_toArray, List.getElem_cons_zero, List.getElem_cons_succ, Act.put, List.setIfInBounds_toArray, List.set_cons_zero, List.set_cons_succ])); (refine wpAnyL_take (i := 8) (oi := _) (v := ?_) rfl (by kernel_rfl) (by kernel_rfl) (by kernel_rfl) (fun _ _ _ h => h) (Or.inl ⟨by first | rfl | kernel_rfl, ?hy8⟩) (by assumption) ?rs8; (case hy8 => (intro w hSw; (try dsimp only at hSw); go_simp; first | done | with_reducible rfl)); case' rs8 => (simp only [List.getElem_toArray, List.getElem_cons_zero, List.getElem_cons_succ, Act.put, List.setIfInBounds_toArray, List.set_cons_zero, List.set_cons_succ])); (refine wpAnyL_take (i := 9) (oi := _) (v := ?_) rfl (by kernel_rfl) (by kernel_rfl) (by kernel_rfl) (fun _ _ _ h => h) (Or.inl ⟨by first | rfl | kernel_rfl, ?hy9⟩) (by assumption) ?rs9; (case hy9 => (intro w hSw; (try dsimp only at hSw); go_simp; first | done | with_reducible rfl)); case' rs9 => (simp only [List.getElem_toArray, List.getElem_cons_zero, List.getElem_cons_succ, Act.put, List.setIfInBounds_toArray, List.set_cons_zero, List.set_cons_succ])); skip
              (refine wpAnyL_one (i := 10) (o := _) (by kernel_rfl) rfl (fun K hK => ?_); clear hHeld; simp only [List.getElem_toArray, List.getElem_cons_zero, List.getElem_cons_succ]; go_simp; refine hK.out _ _ ?_ (fun hHeld => ?_); focus (intro _; exact HC.out _ (DW.alloc DW.size _))); have hHeld := hHeld (by decide); clear hK K; (try simp only [Act.put, List.setIfInBounds_toArray, List.set_cons_zero, List.set_cons_succ])
              have Xp := BD.new hv4.dv
              have DW := Lib.hid (DW.alloc DW.size (.cells #[.bool b4, .slice A4 n4 c4, .int .i64 x4] 25))
              clear hHeld hv4
              (refine wpAnyL_one (i := 11) (o := _) (by kernel_rfl) rfl (fun K hK => ?_); clear hHeld; simp only [List.getElem_toArray, List.getElem_cons_zero, List.getElem_cons_succ]; go_simp; refine hK.out _ _ ?_ (fun hHeld => ?_); focus (intro _; exact HC.out _ DW.out)); have hHeld := hHeld (by decide); clear hK K; (try simp only [Act.put, List.setIfInBounds_toArray, List.set_cons_zero, List.set_cons_succ])
              (refine wpAnyL_take (i := 12) (oi := _) (v := ?_) rfl (by kernel_rfl) (by kernel_rfl) (by kernel_rfl) (fun _ _ _ h => h) (Or.inl ⟨by first | rfl | kernel_rfl, ?hy10⟩) (by assumption) ?rs10; (case hy10 => (intro w hSw; (try dsimp only at hSw); go_simp; first | done | with_reducible rfl)); case' rs10 => (simp only [List.getElem_toArray, List.getElem_cons_zero, List.getElem_cons_succ, Act.put, List.setIfInBounds_toArray, List.set_cons_zero, List.set_cons_succ])); skip
              refine wpAnyL_done (by kernel_rfl) ?_ _
              have T5 := hI.out.1.below DW.out hI.out.1.lt
              have Xt : BD _ w1.heap.size bt At nt ct xt (fo L pre) := ⟨BX.of T5, (hI.out.2.1.below DW.out).dv⟩
              obtain ⟨q0, q1, q2⟩ := Xt.bx
              obtain ⟨r0, r1, r2⟩ := Xp.bx
              gi_wp2_with (first
                | (refine ⟨trivial, ?_⟩; gi_at_call 29; obtain ⟨re, had⟩ := AD.out _ _ _ Xt.dv Xp.dv DW.out; (with_reducible refine (CallsIn.inRound l (callsIn_wide.2 had)).mono ?_); clear had; rintro e w6 ⟨b6, A6, n6, c6, x6, rfl, hv, hb⟩; have DW6 := Lib.hid (DW.out.trans (hb.mono DW.out.size)); have T6 := T5.below hb T5.lt; have p0 := T6.at_ 0 rfl; have p1 := T6.at_ 1 rfl; have p2 := T6.at_ 2 rfl; have f0 := T6.frozen 0; have f1 := T6.frozen 1; have f2 := T6.frozen 2; have T6 := Lib.hid T6; have V6 := Lib.hid hv; clear hv hb))
              refine ⟨KeepsFrom.set3 (KeepsFrom.of_below DW6.out) _ _ _ _ _ _, Kc.step (N := w1.heap.size + 3) hI.out.2.2.sz (by omega) (by omega) (by omega) DW6.out (by omega) (by omega) (by omega) _ _ _, ?_⟩
              exact DI.next hI.out.2.2 DW6.out T6.out V6.out (by first | exact HE0.out trivial | exact HE0.out rfl) (by omega) (Nat.le_refl _)
            · (clear hHeld; simp only [List.getElem_toArray, List.getElem_cons_zero, List.getElem_cons_succ]; go_simp; refine hK.out _ _ ?_ (fun hHeld => ?_); focus (intro _; exact HC.out _ (DW0.alloc (Nat.le_refl _) _))); have hHeld := hHeld (by decide); clear hK K; (try simp only [Act.put, List.setIfInBounds_toArray, List.set_cons_zero, List.set_cons_succ])
              have RB := (Blk.new W 25 #[.bool false, .slice none 0 0, .int .i64 0]).drew
              have DW := ((Below.refl W.heap.size W).alloc (Nat.le_refl _) (.cells #[.bool false, .slice none 0 0, .int .i64 0] 25)).drew
              (refine wpAnyL_one (i := 6) (o := _) (by kernel_rfl) rfl (fun K hK => ?_); clear hHeld; simp only [List.getElem_toArray, List.getElem_cons_zero, List.getElem_cons_succ]; go_simp; (go_at_call 90; (with_reducible refine (EX.out _ DW).mono ?_); rintro e w4 ⟨b4, A4, n4, c4, x4, rfl, hv4, hb4⟩; have RB := RB.below hb4 RB.lt; have DW := DW.trans (hb4.mono DW.size)); refine hK.out _ _ ?_ (fun hHeld => ?_); focus (intro _; exact HC.out _ DW)); have hHeld := hHeld (by decide); clear hK K; (try simp only [Act.put, List.setIfInBounds_toArray, List.set_cons_zero, List.set_cons_succ])
              (refine wpAnyL_take (i := 7) (oi := _) (v := ?_) rfl (by kernel_rfl) (by kernel_rfl) (by kernel_rfl) (fun _ _ _ h => h) (Or.inl ⟨by first | rfl | kernel_rfl, ?hy11⟩) (by assumption) ?rs11; (case hy11 => (intro w hSw; (try dsimp only at hSw); go_simp; first | done | with_reducible rfl)); case' rs11 => (simp only [List.getElem_toArray, List.getElem_cons_zero, List.getElem_cons_succ, Act.put, List.setIfInBounds_toArray, List.set_cons_zero, List.set_cons_succ])); (refine wpAnyL_take (i := 8) (oi := _) (v := ?_) rfl (by kernel_rfl) (by kernel_rfl) (by kernel_rfl) (fun _ _ _ h => h) (Or.inl ⟨by first | rfl | kernel_rfl, ?hy12⟩) (by assumption) ?rs12; (case hy12 => (intro w hSw; (try dsimp only at hSw); go_simp; first | done | with_reducible rfl)); case' rs12 => (simp only [List.getElem_toArray, List.getElem_cons_zero, List.getElem_cons_succ, Act.put, List.setIfInBounds_toArray, List.set_cons_zero, List.set_cons_succ])); (refine wpAnyL_take (i := 9) (oi := _) (v := ?_) rfl (by kernel_rfl) (by kernel_rfl) (by kernel_rfl) (fun _ _ _ h => h) (Or.inl ⟨by first | rfl | kernel_rfl, ?hy13⟩) (by assumption) ?rs13; (case hy13 => (intro w hSw; (try dsimp only at hSw); go_simp; first | done | with_reducible rfl)); case' rs13 => (simp only [List.getElem_toArray, List.getElem_cons_zero, List.getElem_cons_succ, Act.put, List.setIfInBounds_toArray, List.set_cons_zero, List.set_cons_succ])); skip
              have f0 := RB.frozen 0; have f1 := RB.frozen 1; have f2 := RB.frozen 2; have t0 := RB.at_ 0 rfl; have t1 := RB.at_ 1 rfl; have t2 := RB.at_ 2 rfl
              have Xp : BD _ W.heap.size b4 A4 n4 c4 x4 dp := ⟨BX.of (Blk3 RB (.bool b4) (.slice A4 n4 c4) (.int .i64 x4)), (hv4.set3 RB (.bool b4) (.slice A4 n4 c4) (.int .i64 x4) (by intro z h; cases h) (by intro z h; cases h)).dv⟩
              have DW := Lib.hid (below3 DW (Nat.le_refl _) (.bool b4) (.slice A4 n4 c4) (.int .i64 x4))
              clear hHeld RB hv4
              (refine wpAnyL_one (i := 11) (o := _) (by kernel_rfl) rfl (fun K hK => ?_); clear hHeld; simp only [List.getElem_toArray, List.getElem_cons_zero, List.getElem_cons_succ]; go_simp; refine hK.out _ _ ?_ (fun hHeld => ?_); focus (intro _; exact HC.out _ DW.out)); have hHeld := hHeld (by decide); clear hK K; (try simp only [Act.put, List.setIfInBounds_toArray, List.set_cons_zero, List.set_cons_succ])
              clear f0 f1 f2 t0 t1 t2
              (refine wpAnyL_take (i := 12) (oi := _) (v := ?_) rfl (by kernel_rfl) (by kernel_rfl) (by kernel_rfl) (fun _ _ _ h => h) (Or.inl ⟨by first | rfl | kernel_rfl, ?hy14⟩) (by assumption) ?rs14; (case hy14 => (intro w hSw; (try dsimp only at hSw); go_simp; first | done | with_reducible rfl)); case' rs14 => (simp only [List.getElem_toArray, List.getElem_cons_zero, List.getElem_cons_succ, Act.put, List.setIfInBounds_toArray, List.set_cons_zero, List.set_cons_succ])); skip
              refine wpAnyL_done (by kernel_rfl) ?_ _
              have T5 := hI.out.1.below DW.out hI.out.1.lt
              have Xt : BD _ w1.heap.size bt At nt ct xt (fo L pre) := ⟨BX.of T5, (hI.out.2.1.below DW.out).dv⟩
              obtain ⟨q0, q1, q2⟩ := Xt.bx
              obtain ⟨r0, r1, r2⟩ := Xp.bx
              gi_wp2_with (first
                | (refine ⟨trivial, ?_⟩; gi_at_call 29; obtain ⟨re, had⟩ := AD.out _ _ _ Xt.dv Xp.dv DW.out; (with_reducible refine (CallsIn.inRound l (callsIn_wide.2 had)).mono ?_); clear had; rintro e w6 ⟨b6, A6, n6, c6, x6, rfl, hv, hb⟩; have DW6 := Lib.hid (DW.out.trans (hb.mono DW.out.size)); have T6 := T5.below hb T5.lt; have p0 := T6.at_ 0 rfl; have p1 := T6.at_ 1 rfl; have p2 := T6.at_ 2 rfl; have f0 := T6.frozen 0; have f1 := T6.frozen 1; have f2 := T6.frozen 2; have T6 := Lib.hid T6; have V6 := Lib.hid hv; clear hv hb))
              refine ⟨KeepsFrom.set3 (KeepsFrom.of_below DW6.out) _ _ _ _ _ _, Kc.step (N := w1.heap.size + 3) hI.out.2.2.sz (by omega) (by omega) (by omega) DW6.out (by omega) (by omega) (by omega) _ _ _, ?_⟩
              exact DI.next hI.out.2.2 DW6.out T6.out V6.out (by first | exact HE0.out trivial | exact HE0.out rfl) (by omega) (Nat.le_refl _)
          · refine wpIn_region_L (S := fun w' => w'.cell? ap = some (.int .u64 xa) ∧ w'.cell? ⟨ap.block, ap.off + 1, none⟩ = some (.int .u64 ya)) (nl := 1000000) (by kernel_rfl) (by kernel_rfl) ?_ (HC.out _ DW0) (fun hHeld => ?_)
            · rintro ⟨_, _, h⟩; exact h
            (refine wpAnyL_take (i := 0) (oi := _) (v := ?_) rfl (by kernel_rfl) (by kernel_rfl) (by kernel_rfl) (fun _ _ _ h => h) (Or.inl ⟨by first | rfl | kernel_rfl, ?hy15⟩) (by assumption) ?rs15; (case hy15 => (intro w hSw; (try dsimp only at hSw); go_simp; first | done | with_reducible rfl)); case' rs15 => (simp only [List.getElem_toArray, List.getElem_cons_zero, List.getElem_cons_succ, Act.put, List.setIfInBounds_toArray, List.set_cons_zero, List.set_cons_succ])); (refine wpAnyL_take (i := 1) (oi := _) (v := ?_) rfl (by kernel_rfl) (by kernel_rfl) (by kernel_rfl) (fun _ _ _ h => h) (Or.inl ⟨by first | rfl | kernel_rfl, ?hy16⟩) (by assumption) ?rs16; (case hy16 => (intro w hSw; (try dsimp only at hSw); go_simp; first | done | with_reducible rfl)); case' rs16 => (simp only [List.getElem_toArray, List.getElem_cons_zero, List.getElem_cons_succ, Act.put, List.setIfInBounds_toArray, List.set_cons_zero, List.set_cons_succ])); (refine wpAnyL_take (i := 2) (oi := _) (v := ?_) rfl (by kernel_rfl) (by kernel_rfl) (by kernel_rfl) (fun _ _ _ h => h) (Or.inl ⟨by first | rfl | kernel_rfl, ?hy17⟩) (by assumption) ?rs17; (case hy17 => (intro w hSw; (try dsimp only at hSw); go_simp; first | done | with_reducible rfl)); case' rs17 => (simp only [List.getElem_toArray, List.getElem_cons_zero, List.getElem_cons_succ, Act.put, List.setIfInBounds_toArray, List.set_cons_zero, List.set_cons_succ])); (refine wpAnyL_take (i := 3) (oi := _) (v := ?_) rfl (by kernel_rfl) (by kernel_rfl) (by kernel_rfl) (fun _ _ _ h => h) (Or.inl ⟨by first | rfl | kernel_rfl, ?hy18⟩) (by assumption) ?rs18; (case hy18 => (intro w hSw; (try dsimp only at hSw); go_simp; first | done | with_reducible rfl)); case' rs18 => (simp only [List.getElem_toArray, List.getElem_cons_zero, List.getElem_cons_succ, Act.put, List.setIfInBounds_toArray, List.set_cons_zero, List.set_cons_succ])); (refine wpAnyL_take (i := 4) (oi := _) (v := ?_) rfl (by kernel_rfl) (by kernel_rfl) (by kernel_rfl) (fun _ _ _ h => h) (Or.inl ⟨by first | rfl | kernel_rfl, ?hy19⟩) (by assumption) ?rs19; (case hy19 => (intro w hSw; (try dsimp only at hSw); go_simp; first | done | with_reducible rfl)); case' rs19 => (simp only [List.getElem_toArray, List.getElem_cons_zero, List.getElem_cons_succ, Act.put, List.setIfInBounds_toArray, List.set_cons_zero, List.set_cons_succ])); (refine wpAnyL_take (i := 5) (oi := _) (v := ?_) rfl (by kernel_rfl) (by kernel_rfl) (by kernel_rfl) (fun _ _ _ h => h) (Or.inl ⟨by first | rfl | kernel_rfl, ?hy20⟩) (by assumption) ?rs20; (case hy20 => (intro w hSw; (try dsimp only at hSw); go_simp; first | done | with_reducible rfl)); case' rs20 => (simp only [List.getElem_toArray, List.getElem_cons_zero, List.getElem_cons_succ, Act.put, List.setIfInBounds_toArray, List.set_cons_zero, List.set_cons_succ])); skip
            refine wpAnyL_two (i := 6) (j := 10) (oi := _) (oj := _) (by kernel_rfl) rfl rfl (fun K hK => ?_) (fun K hK => ?_)
            · (clear hHeld; simp only [List.getElem_toArray, List.getElem_cons_zero, List.getElem_cons_succ]; go_simp; (go_at_call 90; (with_reducible refine (EX.out _ DW0).mono ?_); rintro e w4 ⟨b4, A4, n4, c4, x4, rfl, hv4, hb4⟩; have DW : Below W.heap.size W w4 := DW0.trans hb4); refine hK.out _ _ ?_ (fun hHeld => ?_); focus (intro _; exact HC.out _ DW)); have hHeld := hHeld (by decide); clear hK K; (try simp only [Act.put, List.setIfInBounds_toArray, List.set_cons_zero, List.set_cons_succ])
              (refine wpAnyL_take (i := 7) (oi := _) (v := ?_) rfl (by kernel_rfl) (by kernel_rfl) (by kernel_rfl) (fun _ _ _ h => h) (Or.inl ⟨by first | rfl | kernel_rfl, ?hy21⟩) (by assumption) ?rs21; (case hy21 => (intro w hSw; (try dsimp only at hSw); go_simp; first | done | with_reducible rfl)); case' rs21 => (simp only [List.getElem_toArray, List.getElem_cons_zero, List.getElem_cons_succ, Act.put, List.setIfInBounds_toArray, List.set_cons_zero, List.set_cons_succ])); (refine wpAnyL_take (i := 8) (oi := _) (v := ?_) rfl (by kernel_rfl) (by kernel_rfl) (by kernel_rfl) (fun _ _ _ h => h) (Or.inl ⟨by first | rfl | kernel_rfl, ?hy22⟩) (by assumption) ?rs22; (case hy22 => (intro w hSw; (try dsimp only at hSw); go_simp; first | done | with_reducible rfl)); case' rs22 => (simp only [List.getElem_toArray, List.getElem_cons_zero, List.getElem_cons_succ, Act.put, List.setIfInBounds_toArray, List.set_cons_zero, List.set_cons_succ])); (refine wpAnyL_take (i := 9) (oi := _) (v := ?_) rfl (by kernel_rfl) (by kernel_rfl) (by kernel_rfl) (fun _ _ _ h => h) (Or.inl ⟨by first | rfl | kernel_rfl, ?hy23⟩) (by assumption) ?rs23; (case hy23 => (intro w hSw; (try dsimp only at hSw); go_simp; first | done | with_reducible rfl)); case' rs23 => (simp only [List.getElem_toArray, List.getElem_cons_zero, List.getElem_cons_succ, Act.put, List.setIfInBounds_toArray, List.set_cons_zero, List.set_cons_succ])); skip
              (refine wpAnyL_one (i := 10) (o := _) (by kernel_rfl) rfl (fun K hK => ?_); clear hHeld; simp only [List.getElem_toArray, List.getElem_cons_zero, List.getElem_cons_succ]; go_simp; refine hK.out _ _ ?_ (fun hHeld => ?_); focus (intro _; exact HC.out _ (DW.alloc DW.size _))); have hHeld := hHeld (by decide); clear hK K; (try simp only [Act.put, List.setIfInBounds_toArray, List.set_cons_zero, List.set_cons_succ])
              have Xp := BD.new hv4.dv
              have DW := Lib.hid (DW.alloc DW.size (.cells #[.bool b4, .slice A4 n4 c4, .int .i64 x4] 25))
              clear hHeld hv4
              (refine wpAnyL_one (i := 11) (o := _) (by kernel_rfl) rfl (fun K hK => ?_); clear hHeld; simp only [List.getElem_toArray, List.getElem_cons_zero, List.getElem_cons_succ]; go_simp; refine hK.out _ _ ?_ (fun hHeld => ?_); focus (intro _; exact HC.out _ DW.out)); have hHeld := hHeld (by decide); clear hK K; (try simp only [Act.put, List.setIfInBounds_toArray, List.set_cons_zero, List.set_cons_succ])
              (refine wpAnyL_take (i := 12) (oi := _) (v := ?_) rfl (by kernel_rfl) (by kernel_rfl) (by kernel_rfl) (fun _ _ _ h => h) (Or.inl ⟨by first | rfl | kernel_rfl, ?hy24⟩) (by assumption) ?rs24; (case hy24 => (intro w hSw; (try dsimp only at hSw); go_simp; first | done | with_reducible rfl)); case' rs24 => (simp only [List.getElem_toArray, List.getElem_cons_zero, List.getElem_cons_succ, Act.put, List.setIfInBounds_toArray, List.set_cons_zero, List.set_cons_succ])); skip
              refine wpAnyL_done (by kernel_rfl) ?_ _
              obtain ⟨k0, k1, k2⟩ := RR.out _ DW.out
              have t0 := k0.at_ 0 rfl; have t1 := k1.at_ 0 rfl; have t2 := k2.at_ 0 rfl; have f0 := k0.frozen 0; have f1 := k1.frozen 0; have f2 := k2.frozen 0
              have KK := Lib.hid (And.intro k0 (And.intro k1 k2)); clear k0 k1 k2
              gi_wp2
              exact ⟨KeepsFrom.set3 (KeepsFrom.of_below DW.out) _ _ _ _ _ _, rfl, DX.of KK.out.1 KK.out.2.1 KK.out.2.2 hI.out.2.2.bel DW.out x (by first | exact HE4.out trivial | exact HE4.out rfl) (Nat.le_refl _)⟩
            · (clear hHeld; simp only [List.getElem_toArray, List.getElem_cons_zero, List.getElem_cons_succ]; go_simp; refine hK.out _ _ ?_ (fun hHeld => ?_); focus (intro _; exact HC.out _ (DW0.alloc (Nat.le_refl _) _))); have hHeld := hHeld (by decide); clear hK K; (try simp only [Act.put, List.setIfInBounds_toArray, List.set_cons_zero, List.set_cons_succ])
              have RB := (Blk.new W 25 #[.bool false, .slice none 0 0, .int .i64 0]).drew
              have DW := ((Below.refl W.heap.size W).alloc (Nat.le_refl _) (.cells #[.bool false, .slice none 0 0, .int .i64 0] 25)).drew
              (refine wpAnyL_one (i := 6) (o := _) (by kernel_rfl) rfl (fun K hK => ?_); clear hHeld; simp only [List.getElem_toArray, List.getElem_cons_zero, List.getElem_cons_succ]; go_simp; (go_at_call 90; (with_reducible refine (EX.out _ DW).mono ?_); rintro e w4 ⟨b4, A4, n4, c4, x4, rfl, hv4, hb4⟩; have RB := RB.below hb4 RB.lt; have DW := DW.trans (hb4.mono DW.size)); refine hK.out _ _ ?_ (fun hHeld => ?_); focus (intro _; exact HC.out _ DW)); have hHeld := hHeld (by decide); clear hK K; (try simp only [Act.put, List.setIfInBounds_toArray, List.set_cons_zero, List.set_cons_succ])
              (refine wpAnyL_take (i := 7) (oi := _) (v := ?_) rfl (by kernel_rfl) (by kernel_rfl) (by kernel_rfl) (fun _ _ _ h => h) (Or.inl ⟨by first | rfl | kernel_rfl, ?hy25⟩) (by assumption) ?rs25; (case hy25 => (intro w hSw; (try dsimp only at hSw); go_simp; first | done | with_reducible rfl)); case' rs25 => (simp only [List.getElem_toArray, List.getElem_cons_zero, List.getElem_cons_succ, Act.put, List.setIfInBounds_toArray, List.set_cons_zero, List.set_cons_succ])); (refine wpAnyL_take (i := 8) (oi := _) (v := ?_) rfl (by kernel_rfl) (by kernel_rfl) (by kernel_rfl) (fun _ _ _ h => h) (Or.inl ⟨by first | rfl | kernel_rfl, ?hy26⟩) (by assumption) ?rs26; (case hy26 => (intro w hSw; (try dsimp only at hSw); go_simp; first | done | with_reducible rfl)); case' rs26 => (simp only [List.getElem_toArray, List.getElem_cons_zero, List.getElem_cons_succ, Act.put, List.setIfInBounds_toArray, List.set_cons_zero, List.set_cons_succ])); (refine wpAnyL_take (i := 9) (oi := _) (v := ?_) rfl (by kernel_rfl) (by kernel_rfl) (by kernel_rfl) (fun _ _ _ h => h) (Or.inl ⟨by first | rfl | kernel_rfl, ?hy27⟩) (by assumption) ?rs27; (case hy27 => (intro w hSw; (try dsimp only at hSw); go_simp; first | done | with_reducible rfl)); case' rs27 => (simp only [List.getElem_toArray, List.getElem_cons_zero, List.getElem_cons_succ, Act.put, List.setIfInBounds_toArray, List.set_cons_zero, List.set_cons_succ])); skip
              have f0 := RB.frozen 0; have f1 := RB.frozen 1; have f2 := RB.frozen 2; have t0 := RB.at_ 0 rfl; have t1 := RB.at_ 1 rfl; have t2 := RB.at_ 2 rfl
              have Xp : BD _ W.heap.size b4 A4 n4 c4 x4 dp := ⟨BX.of (Blk3 RB (.bool b4) (.slice A4 n4 c4) (.int .i64 x4)), (hv4.set3 RB (.bool b4) (.slice A4 n4 c4) (.int .i64 x4) (by intro z h; cases h) (by intro z h; cases h)).dv⟩
              have DW := Lib.hid (below3 DW (Nat.le_refl _) (.bool b4) (.slice A4 n4 c4) (.int .i64 x4))
              clear hHeld RB hv4
              (refine wpAnyL_one (i := 11) (o := _) (by kernel_rfl) rfl (fun K hK => ?_); clear hHeld; simp only [List.getElem_toArray, List.getElem_cons_zero, List.getElem_cons_succ]; go_simp; refine hK.out _ _ ?_ (fun hHeld => ?_); focus (intro _; exact HC.out _ DW.out)); have hHeld := hHeld (by decide); clear hK K; (try simp only [Act.put, List.setIfInBounds_toArray, List.set_cons_zero, List.set_cons_succ])
              clear f0 f1 f2 t0 t1 t2
              (refine wpAnyL_take (i := 12) (oi := _) (v := ?_) rfl (by kernel_rfl) (by kernel_rfl) (by kernel_rfl) (fun _ _ _ h => h) (Or.inl ⟨by first | rfl | kernel_rfl, ?hy28⟩) (by assumption) ?rs28; (case hy28 => (intro w hSw; (try dsimp only at hSw); go_simp; first | done | with_reducible rfl)); case' rs28 => (simp only [List.getElem_toArray, List.getElem_cons_zero, List.getElem_cons_succ, Act.put, List.setIfInBounds_toArray, List.set_cons_zero, List.set_cons_succ])); skip
              refine wpAnyL_done (by kernel_rfl) ?_ _
              obtain ⟨k0, k1, k2⟩ := RR.out _ DW.out
              have t0 := k0.at_ 0 rfl; have t1 := k1.at_ 0 rfl; have t2 := k2.at_ 0 rfl; have f0 := k0.frozen 0; have f1 := k1.frozen 0; have f2 := k2.frozen 0
              have KK := Lib.hid (And.intro k0 (And.intro k1 k2)); clear k0 k1 k2
              gi_wp2
              exact ⟨KeepsFrom.set3 (KeepsFrom.of_below DW.out) _ _ _ _ _ _, rfl, DX.of KK.out.1 KK.out.2.1 KK.out.2.2 hI.out.2.2.bel DW.out x (by first | exact HE4.out trivial | exact HE4.out rfl) (Nat.le_refl _)⟩
        case done =>
          rintro D xs W hD hxs hI hK
          have hnf : nf L = false := nf_all HE.out fun k hk => by
            have hk2 : k ∈ xs.map (·.1) := by rw [hxs]; exact List.mem_range.2 hk
            obtain ⟨x, hx, rfl⟩ := List.mem_map.1 hk2
            rcases PD_e0 (u64s_at hu (2 * x.1)) (u64s_at hu (2 * x.1 + 1)) with ⟨-, h⟩ | ⟨h, -⟩
            · exact h
            · rw [hI.ok x hx] at h; cases h
          have efo := fo_all L xs hxs HE.out
          have n3 : ¬ 200 < L.length := by have := HN.out; omega
          have pk := pt_ok ((nf_fi hu).1 hnf) n3
          have HDT := Lib.hid (DT_fi HM.out (by have := HE.out; omega) n3 hnf)
          obtain ⟨bt, At, nt, ct, xt, TB, TV⟩ := hI.tot
          rw [efo] at TV
          have TO : Hid (Calls Tryd.prog 91 #[.agg #[.bool bt, .slice At nt ct, .int .i64 xt], .int .i64 mode] W (DC.RetB W (.tuple #[.int .u64 (TX (pt L dz) mode), .bool (TL (pt L dz) mode), .int .i64 0]))) := by
            have := To_d _ _ mode W TV.dv (HTT.out _ hI.bel)
            rwa [TE_ok HM.out pk.1] at this
          have RR : Hid (∀ V, Below W.heap.size W V → Blk V w.heap.size 22 #[.int .u64 0] ∧ Blk V (w.heap.size + 1) 4 #[.bool false] ∧ Blk V (w.heap.size + 1 + 1) 26 #[.int .i64 0]) := fun V hV => ⟨hI.r0.below hV hI.r0.lt, hI.r1.below hV hI.r1.lt, hI.r2.below hV hI.r2.lt⟩
          have hB := Lib.hid hI.bel
          have HD := Lib.hid (show w.heap.size ≤ D by omega)
          have HK := Lib.hid hK
          have p0 := TB.at_ 0 rfl
          have p1 := TB.at_ 1 rfl
          have p2 := TB.at_ 2 rfl
          generalize TX (pt L dz) mode = tx at TO HDT
          generalize TL (pt L dz) mode = tl at TO HDT
          clear hnf efo n3 pk TB TV hI hxs hK hu hA k9 D9 T9 c1 c2 hW9
          gi_wp2_with (first
            | (refine ⟨trivial, ?_⟩; gi_at_call 91; (with_reducible refine (callsIn_wide.2 TO.out).mono ?_); rintro e w7 ⟨rfl, hb⟩; have D7 := Lib.hid hb; clear hb; obtain ⟨k0, k1, k2⟩ := RR.out _ D7.out; have t0 := k0.at_ 0 rfl; have t1 := k1.at_ 0 rfl; have t2 := k2.at_ 0 rfl; have f0 := k0.frozen 0; have f1 := k1.frozen 0; have f2 := k2.frozen 0; have KK := Lib.hid (And.intro k0 (And.intro k1 k2)); clear k0 k1 k2))
          have hlt : D < W.heap.size := (Array.getElem?_eq_some_iff.1 HK.out).1
          have hK7 : w7.heap[D]? = some (.deferred (some [])) := (D7.out.block D hlt).trans HK.out
          have hK8 := (((KeepsOthers.setCell w7 ⟨w.heap.size, 0, none⟩ (.int .u64 tx)).trans (KeepsOthers.setCell _ ⟨w.heap.size + 1, 0, none⟩ (.bool tl))).trans (KeepsOthers.setCell _ ⟨w.heap.size + 1 + 1, 0, none⟩ (.int .i64 0))).same D _ hK7 rfl
          refine ⟨by simp, .inl ⟨_, _, rfl, run_takeDeferred hK8, ?_⟩⟩
          obtain ⟨b0, b1, b2⟩ := res3 KK.out.1 KK.out.2.1 KK.out.2.2 (.int .u64 tx) (.bool tl) (.int .i64 0)
          have hr : ∀ r, some D = some r → ∃ o : Obj, ((((w7.setCell ⟨w.heap.size, 0, none⟩ (.int .u64 tx)).setCell ⟨w.heap.size + 1, 0, none⟩ (.bool tl)).setCell ⟨w.heap.size + 1 + 1, 0, none⟩ (.int .i64 0)).heap[r]? = some o ∧ o.isCells = false) := fun r e => by cases e; exact ⟨_, hK8, rfl⟩
          have c0 := (Blk.turn b0 (grownBy_putObj' _ D (.deferred none)) hr).at_ 0 rfl
          have c1 := (Blk.turn b1 (grownBy_putObj' _ D (.deferred none)) hr).at_ 0 rfl
          have c2 := (Blk.turn b2 (grownBy_putObj' _ D (.deferred none)) hr).at_ 0 rfl
          exact ⟨.tuple #[.int .u64 tx, .bool tl, .int .i64 0], by simp [results, Tryd.results41, go_sem, c0, c1, c2], (by rw [HDT.out]; rfl), ((((hB.out.trans (D7.out.mono hB.out.size)).setCell (Nat.le_refl _) _).setCell (by simp) _).setCell (by first | omega | (simp; done) | (simp; omega)) _).trans (belowK_b (w := w) (Nat.le_refl _) _ D _ _ HD.out hK8 rfl rfl)⟩
        case stop =>
          rintro D cc pre W hD - ⟨rfl, hX⟩ hK
          obtain ⟨x, hx⟩ := hX.no
          have hnf : nf L = true := by
            rcases PD_e0 (u64s_at hu (2 * x.1)) (u64s_at hu (2 * x.1 + 1)) with ⟨h, -⟩ | ⟨-, h⟩
            · exact absurd h hx
            · exact nf_of (by have := x.2; have := HE.out; omega) h
          rw [DT_nf HM.out (by have := HE.out; omega) (by have := HN.out; omega) hnf]
          unfold ATv
          have HX := Lib.hid hX
          have HD := Lib.hid (show w.heap.size ≤ D by omega)
          clear hX hx hnf hu hA k9 D9 T9 c1 c2 hW9
          gi_wp2
          refine ⟨by simp, .inl ⟨_, _, rfl, run_takeDeferred hK, ?_⟩⟩
          have hr : ∀ r, some D = some r → ∃ o : Obj, W.heap[r]? = some o ∧ o.isCells = false := fun r e => by cases e; exact ⟨_, hK, rfl⟩
          have c0 := (Blk.turn HX.out.r0 (grownBy_putObj' _ D (.deferred none)) hr).at_ 0 rfl
          have c1 := (Blk.turn HX.out.r1 (grownBy_putObj' _ D (.deferred none)) hr).at_ 0 rfl
          have c2 := (Blk.turn HX.out.r2 (grownBy_putObj' _ D (.deferred none)) hr).at_ 0 rfl
          exact ⟨.tuple #[.int .u64 0, .bool false, .int .i64 4], by simp [results, Tryd.results41, go_sem, c0, c1, c2], rfl, HX.out.bel.trans (belowK_b (w := w) (Nat.le_refl _) _ D _ _ HD.out hK rfl rfl)⟩
    · rw [DT_odd hm h2]
      unfold ATv
      have hn2 : (n : Int) % 2 = 1 := by omega
      clear hT hm hW0 hA h2 e2 D0
      gi_wp2_with (first
        | (refine ⟨trivial, ?_⟩; gi_at_call 88; rw [HW0.out]; (with_reducible refine (callsIn_wide.2 CM.out).mono ?_); rintro e w1 ⟨rfl, hb⟩; have D1 := Lib.hid hb; clear hb; obtain ⟨k0, k1, k2, kb⟩ := K0.out _ D1.out; have t0 := k0.at_ 0 rfl; have t1 := k1.at_ 0 rfl; have t2 := k2.at_ 0 rfl; have f0 := k0.frozen 0; have f1 := k1.frozen 0; have f2 := k2.frozen 0; have KK := Lib.hid (And.intro k0 (And.intro k1 (And.intro k2 kb))); clear k0 k1 k2 kb))
      exact ⟨.tuple #[.int .u64 0, .bool false, .int .i64 3], by simp [results, Tryd.results41, go_sem, t0, t1, t2], rfl, ((KK.out.2.2.2.setCell (by simp) _).setCell (by simp) _).setCell (by first | omega | (simp; done) | (simp; omega)) _⟩
  · rw [if_neg hm] at CM
    rw [DT_no hm]
    unfold ATv
    clear hT hm hW0 hA D0
    gi_wp2_with (first
      | (refine ⟨trivial, ?_⟩; gi_at_call 88; rw [HW0.out]; (with_reducible refine (callsIn_wide.2 CM.out).mono ?_); rintro e w1 ⟨rfl, hb⟩; have D1 := Lib.hid hb; clear hb; obtain ⟨k0, k1, k2, kb⟩ := K0.out _ D1.out; have t0 := k0.at_ 0 rfl; have t1 := k1.at_ 0 rfl; have t2 := k2.at_ 0 rfl; have f0 := k0.frozen 0; have f1 := k1.frozen 0; have f2 := k2.frozen 0; have KK := Lib.hid (And.intro k0 (And.intro k1 (And.intro k2 kb))); clear k0 k1 k2 kb))
    exact ⟨.tuple #[.int .u64 0, .bool false, .int .i64 1], by simp [results, Tryd.results41, go_sem, t0, t1, t2], rfl, ((KK.out.2.2.2.setCell (by simp) _).setCell (by simp) _).setCell (by first | omega | (simp; done) | (simp; omega)) _⟩
end PC
end Go.Proofs.YtjplemfdhhkbaaaDoor
