/-
  Texts glued together for a claim: NPure NMem N1 N2 NBits N3 NCopy N4 N5 NRow N6 NShP N7 N8 NDivP.
-/
import Derived.Test.YtelblhgagpkjmaaGreatDoorF1
import Derived.WalkLawsBesides
import Derived.LoopTactic
import Derived.Lib.Hide
import Derived.Outline
import Derived.RegionTactic
import Derived.BigRegion
import Derived.Deep.QuietTactic
import Derived.BigQuiet
import Derived.Test.YtelblhgagpkjmaaGreatDoorProg
import Derived.WalkKit
import Derived.Lib.EndianBits
import Derived.Laws.CopyOwn
/-
  Plain mathematics: lists of limbs: one limb set, so many limbs, sums, differences, multiples limb by limb.
-/
namespace Go.Proofs.YtelblhgagpkjmaaGreatDoor.L
set_option linter.unusedVariables false
set_option linter.unusedSimpArgs false
open Z (Nz Tz cmpv)
theorem lv_set (L : List Int) (k : Nat) (z : Int) (h : k < L.length) : lv (L.set k z) = lv L + 4294967296 ^ k * (z - L.getD k 0) := by
  induction L generalizing k with
  | nil => simp at h
  | cons d r ih =>
    cases k with
    | zero => simp [lv]; omega
    | succ k =>
      simp only [List.set_cons_succ, lv, List.getD_cons_succ]
      rw [ih k (by simpa using h), Int.pow_succ]; grind
theorem lv_take_succ (L : List Int) (k : Nat) : lv (L.take (k + 1)) = lv (L.take k) + 4294967296 ^ k * L.getD k 0 := by
  induction L generalizing k with
  | nil => simp [lv]
  | cons d r ih =>
    cases k with
    | zero => simp [lv]
    | succ k =>
      simp only [List.take_succ_cons, lv, List.getD_cons_succ]
      rw [ih k, Int.pow_succ]; grind
theorem lv_rep (n : Nat) : lv (List.replicate n 0) = 0 := by
  induction n with
  | zero => rfl
  | succ n ih => simp [List.replicate_succ, lv, ih]
theorem Lim.set {L : List Int} (h : Lim L) (k : Nat) {z : Int} (h0 : 0 ≤ z) (h1 : z < 4294967296) : Lim (L.set k z) := by
  intro d hd
  rcases List.mem_or_eq_of_mem_set hd with hd | rfl
  · exact h d hd
  · exact ⟨h0, h1⟩
theorem Lim.at_ {L : List Int} (h : Lim L) (k : Nat) : 0 ≤ L.getD k 0 ∧ L.getD k 0 < 4294967296 := by
  rw [List.getD_eq_getElem?_getD]
  by_cases hk : k < L.length
  · rw [List.getElem?_eq_getElem hk]; exact h _ (List.getElem_mem hk)
  · rw [List.getElem?_eq_none (by omega)]; simp
theorem Lim.rep (n : Nat) : Lim (List.replicate n 0) := by
  intro d hd
  obtain rfl := List.eq_of_mem_replicate hd
  omega
theorem lv_zero {L : List Int} (h : ∀ d ∈ L, d = 0) : lv L = 0 := by
  induction L with
  | nil => rfl
  | cons d r ih => simp [lv, h d (by simp), ih fun x hx => h x (by simp [hx])]
theorem lv_tz {L : List Int} {k : Nat} (h : Tz L k) : lv (L.take k) = lv L := by
  have := lv_append (L.take k) (L.drop k)
  rw [List.take_append_drop, lv_zero h] at this
  omega
theorem lv_take_all {L : List Int} {k : Nat} (h : L.length ≤ k) : lv (L.take k) = lv L := by rw [List.take_of_length_le h]
theorem lv_drop {L : List Int} (k : Nat) (hk : k < L.length) : lv (L.drop k) = L.getD k 0 + 4294967296 * lv (L.drop (k + 1)) := by
  rw [List.drop_eq_getElem_cons hk]
  simp only [lv]
  rw [List.getD_eq_getElem?_getD, List.getElem?_eq_getElem hk]; rfl
theorem lv_split (L : List Int) (k : Nat) (hk : k < L.length) : lv L = lv (L.take k) + 4294967296 ^ k * (L.getD k 0 + 4294967296 * lv (L.drop (k + 1))) := by
  rw [lv_cut L k (by omega), lv_drop k hk]
theorem lv_at_lt {L M : List Int} {k : Nat} (hL : Lim L) (hM : Lim M) (hk : k < L.length) (hk' : k < M.length) (he : L.drop (k + 1) = M.drop (k + 1)) (h : L.getD k 0 < M.getD k 0) : lv L < lv M := by
  rw [lv_split L k hk, lv_split M k hk', he]
  have h1 := lv_lt (hL.take k)
  rw [List.length_take, Nat.min_eq_left (by omega)] at h1
  have h2 := lv_nonneg (hM.take k)
  have h3 : (4294967296 : Int) ^ k * (L.getD k 0 + 1) ≤ 4294967296 ^ k * M.getD k 0 := Int.mul_le_mul_of_nonneg_left (by omega) (Int.le_of_lt (pow_pos k))
  grind
theorem drop_same {L M : List Int} {k : Nat} (hk : k < L.length) (hk' : k < M.length) (he : L.drop (k + 1) = M.drop (k + 1)) (h : L.getD k 0 = M.getD k 0) : L.drop k = M.drop k := Z.drop_same hk hk' he h
theorem getD_set {L : List Int} {k : Nat} (h : k < L.length) (j : Nat) (z : Int) : (L.set k z).getD j 0 = if j = k then z else L.getD j 0 := Z.getD_set h j z
theorem lim_end {L : List Int} {k : Nat} (hk : k ≤ L.length) (h : k = 0 ∨ L.getD (k - 1) 0 ≠ 0) : Nz (L.take k) := Z.Nz_take hk h
/-- adding under way: so many limbs of Y have been added to X, which reads M now; c is carried -/
structure AddI (X Y : List Int) (i : Nat) (M : List Int) (c : Int) : Prop where
  len : M.length = X.length
  lim : Lim M
  c0 : 0 ≤ c
  c1 : c ≤ 1
  sum : lv M + 4294967296 ^ i * c = lv X + lv (Y.take i)
theorem AddI.start {X : List Int} (Y : List Int) (h : Lim X) : AddI X Y 0 X 0 := ⟨rfl, h, by omega, by omega, by simp [lv]⟩
theorem AddI.step {X Y M : List Int} {i : Nat} {c z c' : Int} (h : AddI X Y i M c) (hi : i < X.length) (z0 : 0 ≤ z) (z1 : z < 4294967296) (g0 : 0 ≤ c') (g1 : c' ≤ 1)
    (e : z + 4294967296 * c' = M.getD i 0 + Y.getD i 0 + c) : AddI X Y (i + 1) (M.set i z) c' := by
  refine ⟨by simp [h.len], h.lim.set i z0 z1, g0, g1, ?_⟩
  rw [lv_set M i z (by rw [h.len]; exact hi), lv_take_succ, Int.pow_succ]
  have := h.sum
  have e2 : 4294967296 ^ i * (z + 4294967296 * c') = 4294967296 ^ i * (M.getD i 0 + Y.getD i 0 + c) := by rw [e]
  grind
theorem AddI.done {X Y M : List Int} {i : Nat} {c : Int} (h : AddI X Y i M c) (hy : Y.length ≤ i) (hx : i = X.length ∨ c = 0) : lv M + 4294967296 ^ X.length * c = lv X + lv Y := by
  have := h.sum
  rw [lv_take_all hy] at this
  rcases hx with rfl | rfl
  · exact this
  · simpa using this
/-- taking away under way -/
structure SubI (X Y : List Int) (i : Nat) (M : List Int) (c : Int) : Prop where
  len : M.length = X.length
  lim : Lim M
  c0 : 0 ≤ c
  c1 : c ≤ 1
  sum : lv M - 4294967296 ^ i * c = lv X - lv (Y.take i)
theorem SubI.start {X : List Int} (Y : List Int) (h : Lim X) : SubI X Y 0 X 0 := ⟨rfl, h, by omega, by omega, by simp [lv]⟩
theorem SubI.step {X Y M : List Int} {i : Nat} {c z c' : Int} (h : SubI X Y i M c) (hi : i < X.length) (z0 : 0 ≤ z) (z1 : z < 4294967296) (g0 : 0 ≤ c') (g1 : c' ≤ 1)
    (e : z - 4294967296 * c' = M.getD i 0 - Y.getD i 0 - c) : SubI X Y (i + 1) (M.set i z) c' := by
  refine ⟨by simp [h.len], h.lim.set i z0 z1, g0, g1, ?_⟩
  rw [lv_set M i z (by rw [h.len]; exact hi), lv_take_succ, Int.pow_succ]
  have := h.sum
  have e2 : 4294967296 ^ i * (z - 4294967296 * c') = 4294967296 ^ i * (M.getD i 0 - Y.getD i 0 - c) := by rw [e]
  grind
theorem SubI.done {X Y M : List Int} {i : Nat} {c : Int} (h : SubI X Y i M c) (_hX : Lim X) (hy : Y.length ≤ i) (hx : i = X.length ∨ c = 0) (hle : lv Y ≤ lv X) : lv M = lv X - lv Y := by
  have hs := h.sum
  rw [lv_take_all hy] at hs
  rcases hx with rfl | rfl
  · have := lv_lt h.lim
    rw [h.len] at this
    have c0 := h.c0
    have c1 := h.c1
    rcases (by omega : c = 0 ∨ c = 1) with rfl | rfl
    · simpa using hs
    · rw [Int.mul_one] at hs; omega
  · simpa using hs
/-- a multiple added, or taken away, under way -/
structure TimI (s : Int) (X Y : List Int) (n : Int) (i : Nat) (M : List Int) (c : Int) : Prop where
  len : M.length = X.length
  lim : Lim M
  c0 : 0 ≤ c
  c1 : c ≤ 4294967296
  rest : ∀ j, i ≤ j → M.getD j 0 = X.getD j 0
  sum : lv M + s * (4294967296 ^ i * c) = lv X + s * (n * lv (Y.take i))
theorem TimI.start {X : List Int} (s : Int) (Y : List Int) (n : Int) (h : Lim X) : TimI s X Y n 0 X 0 := ⟨rfl, h, by omega, by omega, fun _ _ => rfl, by simp [lv]⟩
theorem TimI.step {s n : Int} {X Y M : List Int} {i : Nat} {c z c' : Int} (h : TimI s X Y n i M c) (hi : i < X.length) (z0 : 0 ≤ z) (z1 : z < 4294967296) (g0 : 0 ≤ c') (g1 : c' ≤ 4294967296)
    (e : z + s * (4294967296 * c') = M.getD i 0 + s * (Y.getD i 0 * n) + s * c) : TimI s X Y n (i + 1) (M.set i z) c' := by
  refine ⟨by simp [h.len], h.lim.set i z0 z1, g0, g1, fun j hj => ?_, ?_⟩
  · rw [getD_set (by rw [h.len]; exact hi), if_neg (by omega)]; exact h.rest j (by omega)
  · rw [lv_set M i z (by rw [h.len]; exact hi), lv_take_succ, Int.pow_succ]
    have := h.sum
    have e2 : 4294967296 ^ i * (z + s * (4294967296 * c')) = 4294967296 ^ i * (M.getD i 0 + s * (Y.getD i 0 * n) + s * c) := by rw [e]
    grind
theorem TimI.done {s n : Int} {X Y M : List Int} {i : Nat} {c : Int} (h : TimI s X Y n i M c) (hy : Y.length ≤ i) : lv M + s * (4294967296 ^ i * c) = lv X + s * (n * lv Y) := by
  have := h.sum
  rwa [lv_take_all hy] at this
end Go.Proofs.YtelblhgagpkjmaaGreatDoor.L

/-
  Words for memory: a stretch of a block of the call's own that holds limbs, written in place; a slice of limbs that lies elsewhere; a result in normal form.
-/
namespace Go.Proofs.YtelblhgagpkjmaaGreatDoor
set_option linter.unusedVariables false
set_option linter.unusedSimpArgs false
open Go.RowKit
set_option linter.unusedVariables false
namespace NC
open L
open Z (Nz Tz cmpv)
def RetQ (w : World) (v : Value) (e : Ending) (w' : World) : Prop := e = .returned v ∧ ∃ n, w' = w.drewN n
/-- the limbs' cells from number o on hold M -/
def Wn (cs : Array Value) (o : Nat) (M : List Int) : Prop := ∀ j, j < M.length → cs[o + j]? = some (.int .u32 (M.getD j 0))
/-- block g, the call's own, was written from o on, n limbs, which read M; nothing else was -/
structure Ed (w w' : World) (g : Nat) (cs : Array Value) (o n : Nat) (M : List Int) : Prop where
  len : M.length = n
  grown : w.grownBy w' (some g)
  blk : ∃ cs', Blk w' g 94 cs' ∧ cs'.size = cs.size ∧ Wn cs' o M ∧ ∀ i, (i < o ∨ o + n ≤ i) → cs'[i]? = cs[i]?
theorem Ed.start {w : World} {g : Nat} {cs : Array Value} {o n : Nat} {M : List Int} (hb : Blk w g 94 cs) (hM : Wn cs o M) (hn : M.length = n) : Ed w w g cs o n M :=
  ⟨hn, World.grownBy.refl _ _, cs, hb, rfl, hM, fun _ _ => rfl⟩
section
variable {w w' : World} {g : Nat} {cs : Array Value} {o n : Nat} {M : List Int}
theorem Ed.cell (h : Ed w w' g cs o n M) (j : Nat) (hj : j < n) : w'.cell? ⟨g, o + j, none⟩ = some (.int .u32 (M.getD j 0)) := by
  obtain ⟨cs', hb, _, hM, _⟩ := h.blk
  exact hb.at_ _ (hM j (by rw [h.len]; exact hj))
theorem Ed.frozen (h : Ed w w' g cs o n M) (j : Nat) : w'.frozen? ⟨g, j, none⟩ = false := by
  obtain ⟨cs', hb, _, hM, _⟩ := h.blk
  exact hb.frozen _
theorem grownBy_set {w w' : World} {g : Nat} (h : w.grownBy w' (some g)) (j : Nat) (u : Value) : w.grownBy (w'.setCell ⟨g, j, none⟩ u) (some g) :=
  ⟨h.os, h.tape, h.output, by simpa [World.setCell] using h.size, fun k hk hne => (Below.heap_setCell _ _ _ _ (by rintro rfl; exact hne rfl)).trans (h.block k hk hne)⟩
theorem Ed.set_ (h : Ed w w' g cs o n M) (j : Nat) (hj : j < n) (z : Int) : Ed w (w'.setCell ⟨g, o + j, none⟩ (.int .u32 z)) g cs o n (M.set j z) := by
  obtain ⟨cs', hb, hs, hM, hf⟩ := h.blk
  refine ⟨by simp [h.len], grownBy_set h.grown _ _, _, hb.set_ (o + j) _, by simp [hs], fun i hi => ?_, fun i hi => ?_⟩
  · rw [List.length_set] at hi
    rw [Array.getElem?_setIfInBounds, getD_set (by rw [h.len]; exact hj)]
    have hz := hM j (by rw [h.len]; exact hj)
    have hin : o + j < cs'.size := by
      rcases Nat.lt_or_ge (o + j) cs'.size with h | h
      · exact h
      · rw [Array.getElem?_eq_none h] at hz; cases hz
    by_cases e : i = j
    · subst e; simp [hin]
    · rw [if_neg (by omega), if_neg e]; exact hM i hi
  · rw [Array.getElem?_setIfInBounds, if_neg (by omega)]; exact hf i hi
theorem Ed.drew (h : Ed w w' g cs o n M) : Ed w w'.drew g cs o n M := by
  obtain ⟨a, b, cs', hb, c⟩ := h
  exact ⟨a, ⟨b.os, b.tape, b.output, b.size, b.block⟩, cs', hb, c⟩
theorem Ed.below {B : Nat} {w0 : World} (h : Ed w w' g cs o n M) (hb : Below B w0 w) (hB : B ≤ g) (hB' : B ≤ w.heap.size) : Below B w0 w' :=
  hb.grown h.grown hB' fun k hk => by injection hk with hk; omega
theorem Ed.size (h : Ed w w' g cs o n M) : w.heap.size ≤ w'.heap.size := h.grown.size
end
/-- the slice 's' holds the integers 'L'; it lies in another block than g -/
def SlA (k : IntKind) (w : World) (s : Value) (L : List Int) (g : Nat) : Prop :=
  ∃ A c, s = .slice A L.length c ∧ L.length ≤ c ∧ (L = [] ∨ ∃ ad, A = some ad ∧ ad.block < w.heap.size ∧ ad.block ≠ g ∧ ∀ (j : Nat) (h : j < L.length), w.cell? (ad.add j) = some (.int k L[j]))
theorem SlA.sl {k : IntKind} {w : World} {s : Value} {L : List Int} {g : Nat} (h : SlA k w s L g) : Sl k w s L := by
  obtain ⟨A, c, e, hc, h⟩ := h
  exact ⟨A, c, e, hc, h.imp id fun ⟨ad, e, h1, _, h2⟩ => ⟨ad, e, h1, h2⟩⟩
theorem SlA.grown {k : IntKind} {w w' : World} {s : Value} {L : List Int} {g : Nat} (h : SlA k w s L g) (hg : w.grownBy w' (some g)) : SlA k w' s L g := by
  obtain ⟨A, c, e, hc, h⟩ := h
  refine ⟨A, c, e, hc, h.imp id fun ⟨ad, e, h1, h2, h3⟩ => ⟨ad, e, Nat.lt_of_lt_of_le h1 hg.size, h2, fun j hj => ?_⟩⟩
  exact hg.cell (h3 j hj) (by rw [block_of_add]; intro e; injection e with e; exact h2 e)
theorem SlA.of {k : IntKind} {w : World} {s : Value} {L : List Int} {g : Nat} (h : Sl k w s L) (hg : ∀ A n c, s = .slice (some A) n c → 0 < n → A.block ≠ g) : SlA k w s L g := by
  obtain ⟨A, c, e, hc, h⟩ := h
  refine ⟨A, c, e, hc, ?_⟩
  by_cases hL : L = []
  · exact .inl hL
  · rcases h with h | ⟨ad, rfl, h1, h2⟩
    · exact absurd h hL
    · exact .inr ⟨ad, rfl, h1, hg _ _ _ e (List.length_pos_iff.2 hL), h2⟩
/-- a slice that lay there before the world grew from B on, with the block g one of the new ones -/
theorem SlA.old {k : IntKind} {w w' : World} {s : Value} {L : List Int} {g : Nat} (h : Sl k w s L) (hb : Below w.heap.size w w') (hg : w.heap.size ≤ g) : SlA k w' s L g := by
  obtain ⟨A, c, e, hc, h⟩ := h
  refine ⟨A, c, e, hc, h.imp id fun ⟨ad, e, h1, h2⟩ => ⟨ad, e, Nat.lt_of_lt_of_le h1 hb.size, by omega, fun j hj => (hb.cell (by rw [block_of_add]; exact h1)).trans (h2 j hj)⟩⟩
theorem SlA.at_ {k : IntKind} {w : World} {s : Value} {L : List Int} {g : Nat} (h : SlA k w s L g) (j : Nat) (hj : j < L.length) : ∃ ad c, s = .slice (some ad) L.length c ∧ L.length ≤ c ∧ w.cell? (ad.add j) = some (.int k (L.getD j 0)) := by
  obtain ⟨ad, c, h1, h2, _, h3⟩ := h.sl.at_ j hj
  exact ⟨ad, c, h1, h2, h3⟩
theorem _root_.Go.Proofs.YtelblhgagpkjmaaGreatDoor.Sl.form {k : IntKind} {w : World} {s : Value} {L : List Int} (h : Sl k w s L) : ∃ A c, s = .slice A L.length c ∧ L.length ≤ c := by
  obtain ⟨A, c, e, hc, _⟩ := h
  exact ⟨A, c, e, hc⟩
theorem SlA.drew {k : IntKind} {w : World} {s : Value} {L : List Int} {g : Nat} (h : SlA k w s L g) : SlA k w.drew s L g := h
theorem grownBy_trans {w w1 w2 : World} {g : Nat} (h1 : w.grownBy w1 (some g)) (h2 : w1.grownBy w2 (some g)) : w.grownBy w2 (some g) :=
  ⟨h2.os.trans h1.os, h2.tape.trans h1.tape, h2.output.trans h1.output, Nat.le_trans h1.size h2.size, fun k hk hne => (h2.block k (Nat.lt_of_lt_of_le hk h1.size) hne).trans (h1.block k hk hne)⟩
/-- written once more -/
theorem Ed.again {w w' : World} {g : Nat} {cs : Array Value} {o n : Nat} {M : List Int} (h : Ed w w' g cs o n M) : ∃ cs', Blk w' g 94 cs' ∧ Wn cs' o M ∧ ∀ w2 M', Ed w' w2 g cs' o n M' → Ed w w2 g cs o n M' := by
  obtain ⟨cs', hb, hs, hM, hf⟩ := h.blk
  refine ⟨cs', hb, hM, fun w2 M' h2 => ?_⟩
  obtain ⟨cs2, hb2, hs2, hM2, hf2⟩ := h2.blk
  exact ⟨h2.len, grownBy_trans h.grown h2.grown, cs2, hb2, hs2.trans hs, hM2, fun i hi => (hf2 i hi).trans (hf i hi)⟩
/-- a slice of limbs in normal form that tells 'z' -/
def NV (w : World) (v : Value) (z : Int) : Prop := ∃ L, Sl .u32 w v L ∧ Lim L ∧ Nz L ∧ lv L = z
theorem NV.below {w w' : World} {v : Value} {z : Int} (h : NV w v z) (hb : Below w.heap.size w w') : NV w' v z := by
  obtain ⟨L, h1, h2⟩ := h
  exact ⟨L, h1.below hb, h2⟩
/-- the cell of a fresh zeroed block -/
theorem Wn.made (n : Nat) : Wn (madeCells #[.int .u32 0] n) 0 (List.replicate n 0) := by
  intro j hj
  rw [List.length_replicate] at hj
  rw [made_row, List.getElem?_toArray, List.getElem?_map, Nat.zero_add, List.getElem?_replicate, if_pos hj, Z.getD_rep]
  rfl
end NC
end Go.Proofs.YtelblhgagpkjmaaGreatDoor

/-
  Package nat: Check, checkBoth, trim, compare.
-/
namespace Go.Proofs.YtelblhgagpkjmaaGreatDoor
set_option linter.unusedVariables false
set_option linter.unusedSimpArgs false
open Go.RowKit
set_option linter.unusedVariables false
namespace NC
open L
open Z (Nz Tz cmpv)
/-- what Check tells of a list: 2 too long, 3 a nought at its end, 0 right -/
def chk (l : List Int) : Int := if 400 < l.length then 2 else if l.getLast? = some 0 then 3 else 0
theorem Check_c (v : Value) (l : List Int) (w : World) (hs : Sl .u32 w v l) (hl : l.length ≤ 9223372036854775807) :
    Calls Tryz.prog 78 #[v] w (fun e w' => e = .returned (.int .i64 (chk l)) ∧ w = w') := by
  obtain ⟨A, c, rfl, hc, _⟩ := hs.open_
  obtain ⟨m, em⟩ : ∃ m, m = l.length := ⟨_, rfl⟩
  by_cases h4 : 400 < l.length
  · have hr : chk l = 2 := by unfold chk; rw [if_pos h4]
    rw [← em] at h4 hl hc ⊢
    have HR := Lib.hid hr
    clear hr em hs
    go_enter Tryz.func78, Tryz.ntmps78
    go_wp2
    go_ret
    exact ⟨ret_int HR.out.symm, rfl⟩
  · by_cases hne : l = []
    · have hr : chk l = 0 := by subst hne; rfl
      have m0 : m = 0 := by rw [em, hne]; rfl
      rw [← em] at h4 hl hc ⊢
      subst m0
      have HR := Lib.hid hr
      clear hr em hs hne
      go_enter Tryz.func78, Tryz.ntmps78
      go_wp2
      go_ret
      exact ⟨ret_int HR.out.symm, rfl⟩
    · obtain ⟨ad, c', e', _, hb', hcell⟩ := hs.at_ (l.length - 1) (by have := List.length_pos_iff.2 hne; omega)
      injection e' with e1 e2 e3
      subst e1
      subst e3
      clear e2
      have hlast : l.getLast? = some (l.getD (l.length - 1) 0) := by
        rw [List.getLast?_eq_getElem?, List.getD_eq_getElem?_getD, List.getElem?_eq_getElem (by have := List.length_pos_iff.2 hne; omega)]; rfl
      obtain ⟨d, hd⟩ : ∃ d, d = l.getD (l.length - 1) 0 := ⟨_, rfl⟩
      rw [← hd] at hcell hlast
      have h1 : 1 ≤ l.length := List.length_pos_iff.2 hne
      rw [← em] at h4 hl hc hcell h1 ⊢
      by_cases hd0 : d = 0
      · have hr : chk l = 3 := by unfold chk; rw [if_neg (by omega), if_pos (by rw [hlast, hd0])]
        have e1 : (d == 0) = true := by simp [hd0]
        have HR := Lib.hid hr
        clear hr em hs hne hd hd0 hlast hb'
        go_enter Tryz.func78, Tryz.ntmps78
        go_wp2
        go_ret
        exact ⟨ret_int HR.out.symm, rfl⟩
      · have hr : chk l = 0 := by unfold chk; rw [if_neg (by omega), if_neg (by rw [hlast]; simpa using hd0)]
        have e1 : (d == 0) = false := by simp [hd0]
        have HR := Lib.hid hr
        clear hr em hs hne hd hd0 hlast hb'
        go_enter Tryz.func78, Tryz.ntmps78
        go_wp2
        go_ret
        exact ⟨ret_int HR.out.symm, rfl⟩
/-- what checkBoth tells -/
def chk2 (l m : List Int) : Int := if chk l ≠ 0 then chk l else chk m
theorem checkBoth_c (u v : Value) (l m : List Int) (w : World) (hs : Sl .u32 w u l) (ht : Sl .u32 w v m) (hl : l.length ≤ 9223372036854775807) (hm : m.length ≤ 9223372036854775807) :
    Calls Tryz.prog 112 #[u, v] w (fun e w' => e = .returned (.int .i64 (chk2 l m)) ∧ w = w') := by
  have C1 := Lib.hid (Check_c u l w hs hl)
  have C2 := Lib.hid (Check_c v m w ht hm)
  obtain ⟨r, hr⟩ : ∃ r, r = chk l := ⟨_, rfl⟩
  obtain ⟨r2, hr2⟩ : ∃ r, r = chk2 l m := ⟨_, rfl⟩
  obtain ⟨r3, hr3⟩ : ∃ r, r = chk m := ⟨_, rfl⟩
  rw [← hr] at C1
  rw [← hr3] at C2
  rw [← hr2]
  unfold chk2 at hr2
  rw [← hr, ← hr3] at hr2
  clear hs ht hl hm hr hr3
  by_cases h : r = 0
  · have e1 : (r != 0) = false := by simp [h]
    rw [if_neg (by simpa using h)] at hr2
    have H2 := Lib.hid hr2
    clear hr2 h
    go_enter Tryz.func112, Tryz.ntmps112
    go_wp2_with (first | (go_at_call 78; (with_reducible refine (C1.out).mono ?_); rintro e w' ⟨rfl, rfl⟩) | (go_at_call 78; (with_reducible refine (C2.out).mono ?_); rintro e w' ⟨rfl, rfl⟩))
    go_ret
    exact ⟨ret_int H2.out.symm, rfl⟩
  · have e1 : (r != 0) = true := by simp [h]
    rw [if_pos h] at hr2
    have H2 := Lib.hid hr2
    clear hr2 h
    go_enter Tryz.func112, Tryz.ntmps112
    go_wp2_with (first | (go_at_call 78; (with_reducible refine (C1.out).mono ?_); rintro e w' ⟨rfl, rfl⟩))
    go_ret
    exact ⟨ret_int H2.out.symm, rfl⟩
/-- trim: the same slice, maybe shorter, in normal form -/
def RetTr (w : World) (A : Option Addr) (c : Nat) (L : List Int) (e : Ending) (w' : World) : Prop :=
  ∃ m, e = .returned (.slice A m c) ∧ m ≤ L.length ∧ Nz (L.take m) ∧ lv (L.take m) = lv L ∧ w = w'
theorem trim_c (A : Option Addr) (n c : Nat) (L : List Int) (w : World) (hs : Sl .u32 w (.slice A n c) L) (hn : L.length ≤ 1000000000) :
    Calls Tryz.prog 93 #[.slice A n c] w (RetTr w A c L) := by
  obtain ⟨en, hc⟩ := hs.len_
  rw [← en] at hn hc
  have EN := Lib.hid en
  have HS := Lib.hid hs
  clear en hs
  go_enter Tryz.func93, Tryz.ntmps93
  go_wp2
  go_loop [0] (fun v => ∃ k : Nat, k ≤ n ∧ v = .slice A k c ∧ Hid (Tz L k)) (fun v => match v with | .slice _ k _ => k | _ => 0)
  case atStart => exact ⟨n, Nat.le_refl _, rfl, by rw [EN.out]; exact Z.Tz_all L⟩
  case round =>
    obtain ⟨k, hk, rfl, htz⟩ := hrel
    by_cases hk0 : 0 < k
    · obtain ⟨ad, c', e, hc', hb, hcell⟩ := HS.out.at_ (k - 1) (by rw [← EN.out]; omega)
      injection e with e1 e2 e3
      subst e1
      clear e2 e3 hc' c' hb
      obtain ⟨z, hz⟩ : ∃ z, L.getD (k - 1) 0 = z := ⟨_, rfl⟩
      rw [hz] at hcell
      have HZ := Lib.hid hz
      clear hz
      by_cases h0 : z = 0
      · have h1 : (z == 0) = true := by simp [h0]
        have HT2 := Lib.hid (Z.Tz_pred L k hk0 (by rw [← EN.out]; exact hk) (by rw [HZ.out]; exact h0) htz.out)
        clear h0
        go_wp2
        go_round
        case rel => exact ⟨k - 1, by omega, by simp, HT2.out⟩
        case measure => simp; omega
      · have h1 : (z == 0) = false := by simp [h0]
        have HNZ := Lib.hid h0
        clear h0
        go_wp2
        go_ret
        refine ⟨k, rfl, by rw [← EN.out]; exact hk, lim_end (by rw [← EN.out]; exact hk) (.inr (by rw [HZ.out]; exact HNZ.out)), lv_tz htz.out, rfl⟩
    · obtain rfl : k = 0 := by omega
      go_wp2
      go_ret
      exact ⟨0, rfl, by omega, lim_end (by omega) (.inl rfl), lv_tz htz.out, rfl⟩
end NC
end Go.Proofs.YtelblhgagpkjmaaGreatDoor

/-
  Package nat: compare; cmp.Compare of ints and of limbs.
-/
namespace Go.Proofs.YtelblhgagpkjmaaGreatDoor
set_option linter.unusedVariables false
set_option linter.unusedSimpArgs false
open Go.RowKit
set_option linter.unusedVariables false
namespace NC
open L
open Z (Nz Tz cmpv)
theorem cmpInt_c (x y : Int) (w : World) : Calls Tryz.prog 89 #[.int .i64 x, .int .i64 y] w (fun e w' => e = .returned (.int .i64 (cmpv x y)) ∧ w = w') := by
  have e0 : (x != x) = false := by simp
  have e1 : (y != y) = false := by simp
  rcases Int.lt_trichotomy x y with h | h | h
  · have hr := Lib.hid (Z.cmpv_lt h)
    have e2 : decide (x < y) = true := by simp [h]
    clear h
    go_enter Tryz.func89, Tryz.ntmps89
    go_wp2
    go_ret
    exact ⟨ret_int hr.out.symm, rfl⟩
  · have hr := Lib.hid (Z.cmpv_eq h)
    have e2 : decide (x < y) = false := by simp [h]
    have e3 : decide (y < x) = false := by simp [h]
    clear h
    go_enter Tryz.func89, Tryz.ntmps89
    go_wp2
    go_ret
    exact ⟨ret_int hr.out.symm, rfl⟩
  · have hr := Lib.hid (Z.cmpv_gt h)
    have e2 : decide (x < y) = false := by simp; omega
    have e3 : decide (y < x) = true := by simp [h]
    clear h
    go_enter Tryz.func89, Tryz.ntmps89
    go_wp2
    go_ret
    exact ⟨ret_int hr.out.symm, rfl⟩
theorem cmpU_c (x y : Int) (w : World) : Calls Tryz.prog 127 #[.int .u32 x, .int .u32 y] w (fun e w' => e = .returned (.int .i64 (cmpv x y)) ∧ w = w') := by
  have e0 : (x != x) = false := by simp
  have e1 : (y != y) = false := by simp
  rcases Int.lt_trichotomy x y with h | h | h
  · have hr := Lib.hid (Z.cmpv_lt h)
    have e2 : decide (x < y) = true := by simp [h]
    clear h
    go_enter Tryz.func127, Tryz.ntmps127
    go_wp2
    go_ret
    exact ⟨ret_int hr.out.symm, rfl⟩
  · have hr := Lib.hid (Z.cmpv_eq h)
    have e2 : decide (x < y) = false := by simp [h]
    have e3 : decide (y < x) = false := by simp [h]
    clear h
    go_enter Tryz.func127, Tryz.ntmps127
    go_wp2
    go_ret
    exact ⟨ret_int hr.out.symm, rfl⟩
  · have hr := Lib.hid (Z.cmpv_gt h)
    have e2 : decide (x < y) = false := by simp; omega
    have e3 : decide (y < x) = true := by simp [h]
    clear h
    go_enter Tryz.func127, Tryz.ntmps127
    go_wp2
    go_ret
    exact ⟨ret_int hr.out.symm, rfl⟩
theorem compare_c (s t : Value) (L M : List Int) (w : World) (hs : Sl .u32 w s L) (ht : Sl .u32 w t M) (hL : Lim L) (hM : Lim M) (nL : Nz L) (nM : Nz M) (bL : L.length ≤ 1000000000) (bM : M.length ≤ 1000000000) :
    Calls Tryz.prog 115 #[s, t] w (RetQ w (.int .i64 (cmpv (lv L) (lv M)))) := by
  obtain ⟨n, hn⟩ : ∃ n, n = L.length := ⟨_, rfl⟩
  obtain ⟨m, hm⟩ : ∃ m, m = M.length := ⟨_, rfl⟩
  obtain ⟨A, c, rfl, hc, hcL⟩ := hs.open_
  obtain ⟨B, d, rfl, hd, hcM⟩ := ht.open_
  rw [← hn] at bL hc hcL ⊢
  rw [← hm] at bM hd hcM ⊢
  obtain ⟨r, hr⟩ : ∃ r, r = cmpv (lv L) (lv M) := ⟨_, rfl⟩
  rw [← hr]
  have HR := Lib.hid hr
  have HN := Lib.hid hn
  have HM := Lib.hid hm
  have CL := Lib.hid hcL
  have CM := Lib.hid hcM
  have DL := Lib.hid hL
  have DM := Lib.hid hM
  have NL := Lib.hid nL
  have NM := Lib.hid nM
  clear hr hn hm hcL hcM hL hM nL nM hs ht
  by_cases h0 : n = m
  · subst h0
    go_enter Tryz.func115, Tryz.ntmps115
    go_wp2
    go_loopw [5] (fun i wr => ∃ k : Nat, k ≤ n ∧ i = .int .i64 ((k : Int) - 1) ∧ (∃ q, wr = w.drewN q) ∧ Hid (L.drop k = M.drop k)) (fun i _ => (intOf i + 1).toNat)
    case atStart => exact ⟨n, Nat.le_refl _, rfl, ⟨0, rfl⟩, by unfold Hid; rw [HN.out, List.drop_length, ← HN.out, HM.out, List.drop_length]⟩
    case round =>
      obtain ⟨k, hk, rfl, ⟨q, rfl⟩, hd⟩ := hrel
      have K1 : (k : Int) ≤ 1000000000 := by omega
      by_cases hk0 : 0 < k
      · obtain ⟨ad, rfl, hb1, hx⟩ := CL.out (k - 1) (by omega)
        obtain ⟨ad2, rfl, hb2, hy⟩ := CM.out (k - 1) (by omega)
        obtain ⟨x, hX⟩ : ∃ x, L.getD (k - 1) 0 = x := ⟨_, rfl⟩
        obtain ⟨y, hY⟩ : ∃ y, M.getD (k - 1) 0 = y := ⟨_, rfl⟩
        rw [hX] at hx
        rw [hY] at hy
        have HX := Lib.hid hX
        have HY := Lib.hid hY
        have i0 : (0 : Int) ≤ (k : Int) - 1 := by omega
        have i1 : (k : Int) - 1 < (n : Int) := by omega
        have i3 : ((k : Int) - 1).toNat = k - 1 := by omega
        have kk : k - 1 + 1 = k := by omega
        clear hX hY hb1 hb2
        by_cases hxy : x = y
        · have e1 : (x != y) = false := by simp [hxy]
          have HD2 := Lib.hid (drop_same (k := k - 1) (by rw [← HN.out]; omega) (by rw [← HM.out]; omega) (by rw [kk]; exact hd.out) (by rw [HX.out, HY.out]; exact hxy))
          clear hxy kk
          go_wp2
          go_region
          go_wp2
          exact ⟨⟨k - 1, by omega, by simp; omega, ⟨q + 1, rfl⟩, HD2.out⟩, by simp only [intOf]; omega⟩
        · have e1 : (x != y) = true := by simp [hxy]
          have CU : Hid (∀ w', Calls Tryz.prog 127 #[.int .u32 x, .int .u32 y] w' (fun e w'' => e = .returned (.int .i64 (cmpv x y)) ∧ w'' = w')) := Lib.hid fun w' => (cmpU_c x y w').mono fun e w'' h => ⟨h.1, h.2.symm⟩
          have hres : cmpv x y = r := by
            rw [HR.out]
            rcases Int.lt_or_lt_of_ne hxy with h | h
            · rw [Z.cmpv_lt h, Z.cmpv_lt (lv_at_lt (k := k - 1) DL.out DM.out (by rw [← HN.out]; omega) (by rw [← HM.out]; omega) (by rw [kk]; exact hd.out) (by rw [HX.out, HY.out]; exact h))]
            · rw [Z.cmpv_gt h, Z.cmpv_gt (lv_at_lt (k := k - 1) DM.out DL.out (by rw [← HM.out]; omega) (by rw [← HN.out]; omega) (by rw [kk]; exact hd.out.symm) (by rw [HX.out, HY.out]; exact h))]
          have HE := Lib.hid hres
          clear hxy kk hres
          go_wp2
          go_region
          go_wp2
          go_quiet ((go_at_call 127; exact (CU.out _).mono fun e w'' h => ⟨h.1, _, h.2⟩))
          go_wp2
          go_ret
          refine ⟨ret_int HE.out, _, World.drewN_drewN _ _ _⟩
      · obtain rfl : k = 0 := by omega
        have HE : r = 0 := by
          rw [HR.out]
          have := hd.out
          simp only [List.drop_zero] at this
          exact Z.cmpv_eq (by rw [this])
        have HE := Lib.hid HE
        go_wp2
        go_ret
        exact ⟨ret_int HE.out.symm, q, rfl⟩
  · have e1 : ((n : Int) != (m : Int)) = true := by rw [bne_iff_ne]; omega
    have CI := Lib.hid (cmpInt_c (n : Int) (m : Int))
    have hres : cmpv (n : Int) (m : Int) = r := by
      rw [HR.out]
      rcases Nat.lt_or_gt_of_ne h0 with h | h
      · rw [Z.cmpv_lt (by omega), Z.cmpv_lt (lv_len DL.out DM.out NM.out (by rw [← HN.out, ← HM.out]; exact h))]
      · rw [Z.cmpv_gt (by omega), Z.cmpv_gt (lv_len DM.out DL.out NL.out (by rw [← HN.out, ← HM.out]; exact h))]
    have HE := Lib.hid hres
    clear h0 hres
    go_enter Tryz.func115, Tryz.ntmps115
    go_wp2_with (first | (go_at_call 89; (with_reducible refine (CI.out _).mono ?_); rintro e w' ⟨rfl, rfl⟩))
    go_ret
    exact ⟨ret_int HE.out, 0, rfl⟩
end NC
end Go.Proofs.YtelblhgagpkjmaaGreatDoor

/-
  Plain mathematics: the borrow of a difference of limbs, as package math/bits finds it.
-/
namespace Go.Proofs.YtelblhgagpkjmaaGreatDoor.L
set_option linter.unusedVariables false
set_option linter.unusedSimpArgs false
theorem ofInt32 (a : Nat) (ha : a < 4294967296) : (BitVec.ofInt 32 (a : Int)).toNat = a := by
  rw [BitVec.ofInt_natCast, BitVec.toNat_ofNat]; exact Nat.mod_eq_of_lt (by omega)
theorem xor_u32 (a b : Nat) (ha : a < 4294967296) (hb : b < 4294967296) : bits .xor .u32 (a : Int) (b : Int) = ((a ^^^ b : Nat) : Int) := by
  have hx : a ^^^ b < 2 ^ 32 := Nat.xor_lt_two_pow (by omega) (by omega)
  show IntKind.u32.wrap ((BitVec.ofInt 32 (a : Int) ^^^ BitVec.ofInt 32 (b : Int)).toNat : Int) = _
  rw [BitVec.toNat_xor, ofInt32 a ha, ofInt32 b hb, IntKind.wrap_u32]
  omega
theorem and_u32 (a b : Nat) (ha : a < 4294967296) (hb : b < 4294967296) : bits .and .u32 (a : Int) (b : Int) = ((a &&& b : Nat) : Int) := by
  have hx : a &&& b < 2 ^ 32 := Nat.and_lt_two_pow _ (by omega)
  show IntKind.u32.wrap ((BitVec.ofInt 32 (a : Int) &&& BitVec.ofInt 32 (b : Int)).toNat : Int) = _
  rw [BitVec.toNat_and, ofInt32 a ha, ofInt32 b hb, IntKind.wrap_u32]
  omega
theorem or_u32 (a b : Nat) (ha : a < 4294967296) (hb : b < 4294967296) : bits .or .u32 (a : Int) (b : Int) = ((a ||| b : Nat) : Int) := by
  have hx : a ||| b < 2 ^ 32 := Nat.or_lt_two_pow (by omega) (by omega)
  show IntKind.u32.wrap ((BitVec.ofInt 32 (a : Int) ||| BitVec.ofInt 32 (b : Int)).toNat : Int) = _
  rw [BitVec.toNat_or, ofInt32 a ha, ofInt32 b hb, IntKind.wrap_u32]
  omega
theorem top_bit (e : Nat) (h : e < 4294967296) : e / 2147483648 = (e.testBit 31).toNat := by
  rw [Nat.testBit_eq_decide_div_mod_eq]
  by_cases h1 : e / 2 ^ 31 % 2 = 1
  · simp [h1]; omega
  · simp [h1]; omega
theorem borrow_nat (x y d : Nat) (hx : x < 4294967296) (hy : y < 4294967296) (hd : d < 4294967296) :
    ((((4294967295 ^^^ x) &&& y) ||| ((4294967295 ^^^ (x ^^^ y)) &&& d)) / 2147483648) =
      if (x / 2147483648 = 0 ∧ y / 2147483648 = 1) ∨ (x / 2147483648 = y / 2147483648 ∧ d / 2147483648 = 1) then 1 else 0 := by
  have h1 : (4294967295 ^^^ x) &&& y < 2 ^ 32 := Nat.and_lt_two_pow _ (by omega)
  have h2 : (4294967295 ^^^ (x ^^^ y)) &&& d < 2 ^ 32 := Nat.and_lt_two_pow _ (by omega)
  rw [top_bit _ (Nat.or_lt_two_pow h1 h2), top_bit x hx, top_bit y hy, top_bit d hd]
  simp only [Nat.testBit_or, Nat.testBit_and, Nat.testBit_xor]
  rw [show (4294967295 : Nat).testBit 31 = true by decide]
  cases x.testBit 31 <;> cases y.testBit 31 <;> cases d.testBit 31 <;> rfl
theorem borrow_eq (x y c : Int) (hx : 0 ≤ x ∧ x < 4294967296) (hy : 0 ≤ y ∧ y < 4294967296) (hc : 0 ≤ c ∧ c ≤ 1) :
    bits .or .u32 (bits .and .u32 (bits .xor .u32 IntKind.u32.max x) y) (bits .and .u32 (bits .xor .u32 IntKind.u32.max (bits .xor .u32 x y)) ((x - y - c) % 4294967296)) / 2147483648 =
      if x - y - c < 0 then 1 else 0 := by
  obtain ⟨a, rfl⟩ := Int.eq_ofNat_of_zero_le hx.1
  obtain ⟨b, rfl⟩ := Int.eq_ofNat_of_zero_le hy.1
  obtain ⟨d, hd⟩ := Int.eq_ofNat_of_zero_le (Int.emod_nonneg ((a : Int) - b - c) (by decide : (4294967296 : Int) ≠ 0))
  have hd2 : d < 4294967296 := by omega
  have ha : a < 4294967296 := by omega
  have hb : b < 4294967296 := by omega
  rw [hd, show IntKind.u32.max = ((4294967295 : Nat) : Int) by decide]
  have x1 : a ^^^ b < 2 ^ 32 := Nat.xor_lt_two_pow (by omega) (by omega)
  have x2 : 4294967295 ^^^ a < 2 ^ 32 := Nat.xor_lt_two_pow (by omega) (by omega)
  have x3 : 4294967295 ^^^ (a ^^^ b) < 2 ^ 32 := Nat.xor_lt_two_pow (by omega) (by omega)
  have x4 : (4294967295 ^^^ a) &&& b < 2 ^ 32 := Nat.and_lt_two_pow _ (by omega)
  have x5 : (4294967295 ^^^ (a ^^^ b)) &&& d < 2 ^ 32 := Nat.and_lt_two_pow _ (by omega)
  rw [xor_u32 _ _ (by omega) ha, and_u32 _ _ (by omega) hb, xor_u32 _ _ ha hb, xor_u32 _ _ (by omega) (by omega), and_u32 _ _ (by omega) hd2, or_u32 _ _ (by omega) (by omega)]
  rw [show ((2147483648 : Int)) = ((2147483648 : Nat) : Int) by rfl, ← Int.natCast_ediv, borrow_nat a b d ha hb hd2]
  split <;> split <;> omega
/-- shifted limbs put together -/
theorem or_low (y x : Int) (i : Nat) (hi : i ≤ 32) (hy₀ : 0 ≤ y) (hy : y < 2 ^ i) (hx₀ : 0 ≤ x) (hx : x % 2 ^ i = 0) (hx₁ : x < 4294967296) : bits .or .u32 y x = y + x :=
  bits_join_low .u32 32 (by decide) (fun n h0 h1 => by rw [IntKind.wrap_u32]; omega) i y x hy₀ hy (Int.lt_of_lt_of_le hy (by
    have : (2 : Int) ^ i ≤ 2 ^ 32 := by exact_mod_cast Nat.pow_le_pow_right (by decide : 0 < 2) hi
    exact this)) hx₀ hx (by omega)
end Go.Proofs.YtelblhgagpkjmaaGreatDoor.L

/-
  Package nat: bits.Add32, bits.Sub32; addTo, subFrom, addTimes.
-/
namespace Go.Proofs.YtelblhgagpkjmaaGreatDoor
set_option linter.unusedVariables false
set_option linter.unusedSimpArgs false
open Go.RowKit
set_option linter.unusedVariables false
namespace NC
open L
open Z (Nz Tz cmpv)
/-- a sum of limbs and what is carried -/
def RetC (w : World) (x y c : Int) (e : Ending) (w' : World) : Prop := ∃ z c', e = .returned (.tuple #[.int .u32 z, .int .u32 c']) ∧ 0 ≤ z ∧ z < 4294967296 ∧ 0 ≤ c' ∧ c' ≤ 1 ∧ Hid (z + 4294967296 * c' = x + y + c) ∧ w = w'
/-- a difference of limbs and what is borrowed -/
def RetB (w : World) (x y c : Int) (e : Ending) (w' : World) : Prop := ∃ z c', e = .returned (.tuple #[.int .u32 z, .int .u32 c']) ∧ 0 ≤ z ∧ z < 4294967296 ∧ 0 ≤ c' ∧ c' ≤ 1 ∧ Hid (z - 4294967296 * c' = x - y - c) ∧ w = w'
theorem Add32_c (x y c : Int) (w : World) (hx : 0 ≤ x ∧ x < 4294967296) (hy : 0 ≤ y ∧ y < 4294967296) (hc : 0 ≤ c ∧ c ≤ 1) :
    Calls Tryz.prog 126 #[.int .u32 x, .int .u32 y, .int .u32 c] w (RetC w x y c) := by
  go_enter Tryz.func126, Tryz.ntmps126
  go_wp2
  go_ret2
  exact ⟨_, _, rfl, by omega, by omega, by omega, by omega, by unfold Hid; omega, rfl⟩
theorem Sub32_c (x y c : Int) (w : World) (hx : 0 ≤ x ∧ x < 4294967296) (hy : 0 ≤ y ∧ y < 4294967296) (hc : 0 ≤ c ∧ c ≤ 1) :
    Calls Tryz.prog 128 #[.int .u32 x, .int .u32 y, .int .u32 c] w (RetB w x y c) := by
  have HB := Lib.hid (borrow_eq x y c hx hy hc)
  go_enter Tryz.func128, Tryz.ntmps128
  go_wp2
  rw [HB.out]
  go_ret2
  exact ⟨_, _, rfl, by omega, by omega, by split <;> omega, by split <;> omega, by unfold Hid; split <;> omega, rfl⟩
/-- written in place: block g from o on, n limbs; what is told -/
def RetEd (w : World) (g : Nat) (cs : Array Value) (o n : Nat) (p : List Int → Int → Prop) (e : Ending) (w' : World) : Prop :=
  ∃ M k, e = .returned (.int .u32 k) ∧ Ed w w' g cs o n M ∧ Lim M ∧ 0 ≤ k ∧ k < 4294967296 ∧ Hid (p M k)
/-- .. with no result -/
def RetEd0 (w : World) (g : Nat) (cs : Array Value) (o n : Nat) (p : List Int → Prop) (e : Ending) (w' : World) : Prop :=
  ∃ M, e = .returned (.tuple #[]) ∧ Ed w w' g cs o n M ∧ Lim M ∧ Hid (p M)
theorem addTo_c (g o n c : Nat) (cs : Array Value) (X Y : List Int) (vb : Value) (w : World) (hb : Blk w g 94 cs) (hx : Wn cs o X) (hn : X.length = n) (hY : SlA .u32 w vb Y g) (LX : Lim X) (LY : Lim Y)
    (hlen : Y.length ≤ n) (hN : n ≤ 1000000000) (hc : n ≤ c) :
    Calls Tryz.prog 113 #[.slice (some ⟨g, o, none⟩) n c, vb] w (RetEd w g cs o n fun M k => lv M + 4294967296 ^ n * k = lv X + lv Y ∧ k ≤ 1) := by
  have E0 := Lib.hid (Ed.start hb hx hn)
  have hY' := hY
  obtain ⟨B, d, rfl, hd, _⟩ := hY'
  have HY := Lib.hid hY
  obtain ⟨m, hm⟩ : ∃ m, m = Y.length := ⟨_, rfl⟩
  rw [← hm] at hd hlen HY ⊢
  have LY' := Lib.hid LY
  have HM := Lib.hid hm
  have HN := Lib.hid hn
  have I0 := Lib.hid (AddI.start Y LX)
  clear hY hb hx LX LY hm hn
  go_enter Tryz.func113, Tryz.ntmps113
  go_wp2
  go_loopw [11, 5] (fun iv cv wr => ∃ (i : Nat) (M : List Int) (k : Int), iv = .int .i64 i ∧ i ≤ m ∧ cv = .int .u32 k ∧ Hid (AddI X Y i M k) ∧ Hid (Ed w wr g cs o n M)) (fun iv _ _ => m - (intOf iv).toNat)
  case atStart => exact ⟨0, X, 0, rfl, by omega, rfl, I0, E0⟩
  case round =>
    obtain ⟨i, M, k, rfl, hi, rfl, hI, hE⟩ := hrel
    have ik := hI.out.c0
    have ik1 := hI.out.c1
    by_cases him : i < m
    · obtain ⟨ady, cy, ey, hcy, hyc⟩ := (HY.out.grown hE.out.grown).at_ i (by rw [← HM.out]; exact him)
      injection ey with ey1 ey2 ey3
      subst ey1
      clear ey2 ey3 hcy
      have hxc := hE.out.cell i (by omega)
      have bx := hI.out.lim.at_ i
      have bY := LY'.out.at_ i
      have fx := hE.out.frozen (o + i)
      obtain ⟨x, ex⟩ : ∃ x, M.getD i 0 = x := ⟨_, rfl⟩
      obtain ⟨y, ey⟩ : ∃ y, Y.getD i 0 = y := ⟨_, rfl⟩
      rw [ex] at hxc bx
      rw [ey] at hyc bY
      have EX := Lib.hid ex
      have EY := Lib.hid ey
      have A := Lib.hid (Add32_c x y k wr bx bY ⟨ik, ik1⟩)
      clear ex ey
      go_wp2_with (first | (go_at_call 126; (with_reducible refine (A.out).mono ?_); rintro e w2 ⟨z, k2, rfl, hz0, hz1, hk0, hk1, hs, rfl⟩))
      have hI2 := hI.out.step (by rw [HN.out]; omega) hz0 hz1 hk0 hk1 (by rw [EX.out, EY.out]; exact hs.out)
      exact ⟨⟨i + 1, _, k2, by simp, by omega, rfl, hI2, hE.out.set_ i (by omega) z⟩, by simp only [intOf]; omega⟩
    · obtain rfl : m = i := by omega
      go_wp2
      go_loopw [8, 5] (fun iv cv wr => ∃ (i : Nat) (M : List Int) (k : Int), iv = .int .i64 i ∧ m ≤ i ∧ i ≤ n ∧ cv = .int .u32 k ∧ Hid (AddI X Y i M k) ∧ Hid (Ed w wr g cs o n M)) (fun iv _ _ => n - (intOf iv).toNat)
      case atStart => exact ⟨m, M, k, rfl, Nat.le_refl _, hlen, rfl, hI, hE⟩
      case round =>
        obtain ⟨i, M, k, rfl, hmi, hi, rfl, hI, hE⟩ := hrel
        have ik := hI.out.c0
        have ik1 := hI.out.c1
        by_cases hin : i < n
        · by_cases hk : 0 < k
          · have e1 : decide (0 < k) = true := by simp [hk]
            have hxc := hE.out.cell i (by omega)
            have bx := hI.out.lim.at_ i
            have fx := hE.out.frozen (o + i)
            obtain ⟨x, ex⟩ : ∃ x, M.getD i 0 = x := ⟨_, rfl⟩
            rw [ex] at hxc bx
            have EX := Lib.hid ex
            have EY := Lib.hid (Z.getD_out (L := Y) (k := i) (by rw [← HM.out]; exact hmi))
            have A := Lib.hid (Add32_c x 0 k wr bx (by omega) ⟨ik, ik1⟩)
            clear ex hk
            go_wp2_with (first | (go_at_call 126; (with_reducible refine (A.out).mono ?_); rintro e w2 ⟨z, k2, rfl, hz0, hz1, hk0, hk1, hs, rfl⟩))
            have hI2 := hI.out.step (by rw [HN.out]; omega) hz0 hz1 hk0 hk1 (by rw [EX.out, EY.out]; exact hs.out)
            exact ⟨⟨i + 1, _, k2, by simp, by omega, by omega, rfl, hI2, hE.out.set_ i (by omega) z⟩, by simp only [intOf]; omega⟩
          · obtain rfl : k = 0 := by omega
            have hD := Lib.hid (hI.out.done (by rw [← HM.out]; exact hmi) (.inr rfl))
            go_wp2
            go_ret
            exact ⟨M, 0, rfl, hE.out, hI.out.lim, by omega, by omega, by rw [← HN.out]; exact hD.out, by omega⟩
        · obtain rfl : i = n := by omega
          have hD := Lib.hid (hI.out.done (by rw [← HM.out]; exact hmi) (.inl HN.out.symm))
          go_wp2
          go_ret
          exact ⟨M, k, rfl, hE.out, hI.out.lim, by omega, by omega, by rw [← HN.out]; exact hD.out, by omega⟩
theorem subFrom_c (g o n c : Nat) (cs : Array Value) (X Y : List Int) (vb : Value) (w : World) (hb : Blk w g 94 cs) (hx : Wn cs o X) (hn : X.length = n) (hY : SlA .u32 w vb Y g) (LX : Lim X) (LY : Lim Y)
    (hlen : Y.length ≤ n) (hN : n ≤ 1000000000) (hc : n ≤ c) (hle : lv Y ≤ lv X) :
    Calls Tryz.prog 117 #[.slice (some ⟨g, o, none⟩) n c, vb] w (RetEd0 w g cs o n fun M => lv M = lv X - lv Y) := by
  have E0 := Lib.hid (Ed.start hb hx hn)
  have hY' := hY
  obtain ⟨B, d, rfl, hd, _⟩ := hY'
  have HY := Lib.hid hY
  obtain ⟨m, hm⟩ : ∃ m, m = Y.length := ⟨_, rfl⟩
  rw [← hm] at hd hlen HY ⊢
  have LY' := Lib.hid LY
  have HM := Lib.hid hm
  have HN := Lib.hid hn
  have I0 := Lib.hid (SubI.start Y LX)
  have LX' := Lib.hid LX
  have HLE := Lib.hid hle
  clear hY hb hx LX LY hm hn hle
  go_enter Tryz.func117, Tryz.ntmps117
  go_wp2
  go_loopw [10, 4] (fun iv cv wr => ∃ (i : Nat) (M : List Int) (k : Int), iv = .int .i64 i ∧ i ≤ m ∧ cv = .int .u32 k ∧ Hid (SubI X Y i M k) ∧ Hid (Ed w wr g cs o n M)) (fun iv _ _ => m - (intOf iv).toNat)
  case atStart => exact ⟨0, X, 0, rfl, by omega, rfl, I0, E0⟩
  case round =>
    obtain ⟨i, M, k, rfl, hi, rfl, hI, hE⟩ := hrel
    have ik := hI.out.c0
    have ik1 := hI.out.c1
    by_cases him : i < m
    · obtain ⟨ady, cy, ey, hcy, hyc⟩ := (HY.out.grown hE.out.grown).at_ i (by rw [← HM.out]; exact him)
      injection ey with ey1 ey2 ey3
      subst ey1
      clear ey2 ey3 hcy
      have hxc := hE.out.cell i (by omega)
      have bx := hI.out.lim.at_ i
      have bY := LY'.out.at_ i
      have fx := hE.out.frozen (o + i)
      obtain ⟨x, ex⟩ : ∃ x, M.getD i 0 = x := ⟨_, rfl⟩
      obtain ⟨y, ey⟩ : ∃ y, Y.getD i 0 = y := ⟨_, rfl⟩
      rw [ex] at hxc bx
      rw [ey] at hyc bY
      have EX := Lib.hid ex
      have EY := Lib.hid ey
      have A := Lib.hid (Sub32_c x y k wr bx bY ⟨ik, ik1⟩)
      clear ex ey
      go_wp2_with (first | (go_at_call 128; (with_reducible refine (A.out).mono ?_); rintro e w2 ⟨z, k2, rfl, hz0, hz1, hk0, hk1, hs, rfl⟩))
      have hI2 := hI.out.step (by rw [HN.out]; omega) hz0 hz1 hk0 hk1 (by rw [EX.out, EY.out]; exact hs.out)
      exact ⟨⟨i + 1, _, k2, by simp, by omega, rfl, hI2, hE.out.set_ i (by omega) z⟩, by simp only [intOf]; omega⟩
    · obtain rfl : m = i := by omega
      go_wp2
      go_loopw [7, 4] (fun iv cv wr => ∃ (i : Nat) (M : List Int) (k : Int), iv = .int .i64 i ∧ m ≤ i ∧ i ≤ n ∧ cv = .int .u32 k ∧ Hid (SubI X Y i M k) ∧ Hid (Ed w wr g cs o n M)) (fun iv _ _ => n - (intOf iv).toNat)
      case atStart => exact ⟨m, M, k, rfl, Nat.le_refl _, hlen, rfl, hI, hE⟩
      case round =>
        obtain ⟨i, M, k, rfl, hmi, hi, rfl, hI, hE⟩ := hrel
        have ik := hI.out.c0
        have ik1 := hI.out.c1
        by_cases hin : i < n
        · by_cases hk : 0 < k
          · have e1 : decide (0 < k) = true := by simp [hk]
            have hxc := hE.out.cell i (by omega)
            have bx := hI.out.lim.at_ i
            have fx := hE.out.frozen (o + i)
            obtain ⟨x, ex⟩ : ∃ x, M.getD i 0 = x := ⟨_, rfl⟩
            rw [ex] at hxc bx
            have EX := Lib.hid ex
            have EY := Lib.hid (Z.getD_out (L := Y) (k := i) (by rw [← HM.out]; exact hmi))
            have A := Lib.hid (Sub32_c x 0 k wr bx (by omega) ⟨ik, ik1⟩)
            clear ex hk
            go_wp2_with (first | (go_at_call 128; (with_reducible refine (A.out).mono ?_); rintro e w2 ⟨z, k2, rfl, hz0, hz1, hk0, hk1, hs, rfl⟩))
            have hI2 := hI.out.step (by rw [HN.out]; omega) hz0 hz1 hk0 hk1 (by rw [EX.out, EY.out]; exact hs.out)
            exact ⟨⟨i + 1, _, k2, by simp, by omega, by omega, rfl, hI2, hE.out.set_ i (by omega) z⟩, by simp only [intOf]; omega⟩
          · obtain rfl : k = 0 := by omega
            have hD := Lib.hid (hI.out.done LX'.out (by rw [← HM.out]; exact hmi) (.inr rfl) HLE.out)
            go_wp2
            go_end0
            exact ⟨M, rfl, hE.out, hI.out.lim, hD⟩
        · obtain rfl : i = n := by omega
          have hD := Lib.hid (hI.out.done LX'.out (by rw [← HM.out]; exact hmi) (.inl HN.out.symm) HLE.out)
          go_wp2
          go_end0
          exact ⟨M, rfl, hE.out, hI.out.lim, hD⟩
end NC
end Go.Proofs.YtelblhgagpkjmaaGreatDoor

/-
  Words for memory: limbs copied into a new zeroed block; what a call tells: limbs in normal form, and an error.
-/
namespace Go.Proofs.YtelblhgagpkjmaaGreatDoor
set_option linter.unusedVariables false
set_option linter.unusedSimpArgs false
open Go.RowKit
set_option linter.unusedVariables false
namespace NC
open L
open Z (Nz Tz cmpv)
theorem Wn.row (L : List Int) : Wn ((L.map (Value.int .u32)).toArray) 0 L := by
  intro j hj
  rw [List.getElem?_toArray, List.getElem?_map, Nat.zero_add, List.getD_eq_getElem?_getD, List.getElem?_eq_getElem hj]
  rfl
theorem splice_limbs (N : Nat) (l : List Int) (h : l.length ≤ N) : splice ((List.replicate N (0 : Int)).map (Value.int .u32)) 0 (l.map (Value.int .u32)) = (l ++ List.replicate (N - l.length) 0).map (Value.int .u32) := by
  simp [splice]
theorem wp_copy_limbs {w : World} {ops : Array Oper} {rest : List Oper} {o : Oper} {a : Act} {Q : Exit → Act → World → Prop} (hgd : o.guard = none) (d s : Operand)
    (ho : o.op = .call { callee := .builtin .copy, args := #[d, s], argTypes := #[24, 24] }) (g N : Nat) (hd : a.eval d = .slice (some ⟨g, 0, none⟩) N N) (vs : Value) (hs : a.eval s = vs) (l : List Int) (hS : Sl .u32 w vs l) (hl : l.length ≤ N)
    (hg : Row .u32 94 w g (List.replicate N 0)) (B : Nat) (w0 : World) (hb : Below B w0 w) (hBg : B ≤ g)
    (h : ∀ w', Hid (Row .u32 94 w' g (l ++ List.replicate (N - l.length) 0)) → Below B w0 w' → wpList Tryz.prog ops Q rest (a.put o.dst (goInt l.length)) w') : wpList Tryz.prog ops Q (o :: rest) a w := by
  obtain ⟨A, c, rfl, hc, hA⟩ := hS
  refine wpList_copy_splice hgd d s 24 24 ho 94 Tryz.underlying24 (by kernel_rfl) (some ⟨g, 0, none⟩) A N N l.length c hd hs g 0 ((List.replicate N (0 : Int)).map (Value.int .u32)) 94 hg (l.map (Value.int .u32)) (by rw [List.length_map]; exact (Nat.min_eq_left hl).symm)
    (fun h0 => ⟨rfl, ?_⟩) (by simp; exact hl) (by intro v hv; obtain ⟨z, _, rfl⟩ := List.mem_map.1 hv; rfl) B w0 hb hBg ?_
  · rcases hA with h1 | ⟨ad, rfl, hb1, hc1⟩
    · subst h1; simp at h0
    · refine ⟨ad, rfl, fun j v hv => ?_⟩
      have hj : j < l.length := by
        rcases Nat.lt_or_ge j l.length with h | h
        · exact h
        · rw [List.getElem?_eq_none (by simpa using h)] at hv; cases hv
      rw [hc1 j hj]
      rw [List.getElem?_map, List.getElem?_eq_getElem hj] at hv
      simpa using hv
  · intro w' hw' hb'
    have hR := hw'.out
    rw [splice_limbs N l hl] at hR
    have := h w' hR hb'
    simpa using this
/-- limbs in normal form that tell 'z', and an error -/
def RetL (w : World) (er z : Int) (e : Ending) (w' : World) : Prop := ∃ A n c, e = .returned (.tuple #[.slice A n c, .int .i64 er]) ∧ NV w' (.slice A n c) z ∧ Below w.heap.size w w'
theorem NV.nil (w : World) (c : Nat) (A : Option Addr) : NV w (.slice A 0 c) 0 := ⟨[], Sl.nil _ _ _ _, Lim.nil, (by intro h; exact absurd rfl h), rfl⟩
theorem RetL.err {w w' : World} {er : Int} (hb : Below w.heap.size w w') : RetL w er 0 (.returned (.tuple #[.slice none 0 0, .int .i64 er])) w' := ⟨none, 0, 0, rfl, NV.nil _ _ _, hb⟩
theorem chk_ok {l : List Int} : chk l = 0 ↔ l.length ≤ 400 ∧ Nz l := by
  unfold chk
  by_cases h4 : 400 < l.length
  · rw [if_pos h4]; constructor
    · intro h; cases h
    · intro h; omega
  · rw [if_neg h4]
    by_cases hne : l = []
    · subst hne
      exact ⟨fun _ => ⟨by simp, fun h => absurd rfl h⟩, fun _ => rfl⟩
    · by_cases h0 : l.getLast hne = 0
      · rw [if_pos (by rw [List.getLast?_eq_some_getLast hne, h0])]
        constructor
        · intro h; cases h
        · intro h; exact absurd h0 (h.2 hne)
      · rw [if_neg (by rw [List.getLast?_eq_some_getLast hne]; simpa using h0)]
        exact ⟨fun _ => ⟨by omega, fun _ => h0⟩, fun _ => rfl⟩
theorem chk2_ok {l m : List Int} : chk2 l m = 0 ↔ chk l = 0 ∧ chk m = 0 := by
  unfold chk2
  by_cases h : chk l = 0
  · rw [if_neg (by simpa using h)]; simp [h]
  · rw [if_pos h]; simp [h]
theorem trimmed {w' : World} {A : Option Addr} {c m : Nat} {L : List Int} {z : Int} (hs : Sl .u32 w' (.slice A L.length c) L) (hm : m ≤ L.length) (hl : Lim L) (hn : Nz (L.take m)) (hv : lv (L.take m) = lv L) (hz : lv L = z) : NV w' (.slice A m c) z :=
  ⟨L.take m, hs.take m hm, hl.take m, hn, hv.trans hz⟩
theorem Ed.sl {w w' : World} {g : Nat} {cs : Array Value} {o n : Nat} {M : List Int} (h : Ed w w' g cs o n M) (c : Nat) (hc : n ≤ c) : Sl .u32 w' (.slice (some ⟨g, o, none⟩) M.length c) M := by
  obtain ⟨cs', hb, _, hM, _⟩ := h.blk
  refine ⟨_, c, rfl, by rw [h.len]; exact hc, .inr ⟨⟨g, o, none⟩, rfl, hb.lt, fun j hj => ?_⟩⟩
  have e : (⟨g, o, none⟩ : Addr).add j = ⟨g, o + j, none⟩ := by unfold Addr.add; split <;> simp_all
  rw [e, hb.at_ _ (hM j hj), List.getD_eq_getElem?_getD, List.getElem?_eq_getElem hj]; rfl
theorem lv_pad (l : List Int) (k : Nat) : lv (l ++ List.replicate k 0) = lv l := by rw [lv_append, lv_rep]; simp
theorem Lim.pad {l : List Int} (h : Lim l) (k : Nat) : Lim (l ++ List.replicate k 0) := h.app (Lim.rep k)
theorem len_pad (l : List Int) (N : Nat) (h : l.length ≤ N) : (l ++ List.replicate (N - l.length) 0).length = N := by simp; omega
theorem no_carry {l m M : List Int} {N : Nat} {k : Int} (hl : Lim l) (hm : Lim m) (h1 : l.length < N) (h2 : m.length < N) (hM : Lim M) (k0 : 0 ≤ k) (h : lv M + 4294967296 ^ N * k = lv l + lv m) : lv M = lv l + lv m := by
  obtain ⟨n, rfl⟩ : ∃ n, N = n + 1 := ⟨N - 1, by omega⟩
  have a1 := Int.lt_of_lt_of_le (lv_lt hl) (pow_mono (show l.length ≤ n by omega))
  have a2 := Int.lt_of_lt_of_le (lv_lt hm) (pow_mono (show m.length ≤ n by omega))
  have a3 := lv_nonneg hM
  have a4 := pow_pos n
  rw [Int.pow_succ] at h
  by_cases hk : k = 0
  · subst hk; simpa using h
  · have : (4294967296 : Int) ^ n * 4294967296 * 1 ≤ 4294967296 ^ n * 4294967296 * k := Int.mul_le_mul_of_nonneg_left (by omega) (by omega)
    omega
end NC
end Go.Proofs.YtelblhgagpkjmaaGreatDoor

/-
  Package nat: Of, Cmp, Add.
-/
namespace Go.Proofs.YtelblhgagpkjmaaGreatDoor
set_option linter.unusedVariables false
set_option linter.unusedSimpArgs false
open Go.RowKit
set_option linter.unusedVariables false
namespace NC
open L
open Z (Nz Tz cmpv)
theorem Cmp_c (u v : Value) (l m : List Int) (w : World) (hs : Sl .u32 w u l) (ht : Sl .u32 w v m) (hl : l.length ≤ 9223372036854775807) (hm : m.length ≤ 9223372036854775807) (Ll : Lim l) (Lm : Lim m) :
    Calls Tryz.prog 91 #[u, v] w (RetQ w (.tuple #[.int .i64 (if chk2 l m = 0 then cmpv (lv l) (lv m) else 0), .int .i64 (chk2 l m)])) := by
  have C := Lib.hid (checkBoth_c u v l m w hs ht hl hm)
  obtain ⟨r, hr⟩ : ∃ r, r = chk2 l m := ⟨_, rfl⟩
  rw [← hr] at C ⊢
  by_cases h : r = 0
  · have h1 := (chk2_ok.1 (hr.symm.trans h))
    have h2 := chk_ok.1 h1.1
    have h3 := chk_ok.1 h1.2
    have P := Lib.hid (compare_c u v l m w hs ht Ll Lm h2.2 h3.2 (by omega) (by omega))
    rw [if_pos h]
    clear hs ht hl hm Ll Lm hr h1 h2 h3
    subst h
    generalize cmpv (lv l) (lv m) = q at P ⊢
    go_enter Tryz.func91, Tryz.ntmps91
    go_wp2_with (first | (go_at_call 112; (with_reducible refine (C.out).mono ?_); rintro e w' ⟨rfl, rfl⟩) | (go_at_call 115; (with_reducible refine (P.out).mono ?_); rintro e w2 ⟨rfl, k, rfl⟩))
    go_ret2
    exact ⟨rfl, k, rfl⟩
  · have e1 : (r != 0) = true := by simp [h]
    rw [if_neg h]
    clear hs ht hl hm Ll Lm hr h
    go_enter Tryz.func91, Tryz.ntmps91
    go_wp2_with (first | (go_at_call 112; (with_reducible refine (C.out).mono ?_); rintro e w' ⟨rfl, rfl⟩))
    go_ret2
    exact ⟨rfl, 0, rfl⟩
/-- limbs in normal form that tell 'z' -/
def RetV (w : World) (z : Int) (e : Ending) (w' : World) : Prop := ∃ A n c, e = .returned (.slice A n c) ∧ NV w' (.slice A n c) z ∧ Below w.heap.size w w'
/-- a block of the call's own, written; it reads M, which tells z -/
def RetRow (w : World) (g N : Nat) (z : Int) (e : Ending) (w' : World) : Prop := ∃ M k, e = .returned (.int .u32 k) ∧ w.grownBy w' (some g) ∧ Hid (Sl .u32 w' (.slice (some ⟨g, 0, none⟩) N N) M ∧ M.length = N ∧ Lim M ∧ lv M = z)
set_option maxRecDepth 100000 in
theorem addTo_row (g N : Nat) (l m : List Int) (vb : Value) (w : World) (hR : Row .u32 94 w g (l ++ List.replicate (N - l.length) 0)) (hY : SlA .u32 w vb m g) (Ll : Lim l) (Lm : Lim m) (hl : l.length < N) (hm : m.length < N) (hN : N ≤ 1000000000) :
    Calls Tryz.prog 113 #[.slice (some ⟨g, 0, none⟩) N N, vb] w (RetRow w g N (lv l + lv m)) := by
  refine (addTo_c g 0 N N _ _ m vb w hR (Wn.row _) (len_pad l N (by omega)) hY (Lim.pad Ll _) Lm (by omega) hN (Nat.le_refl _)).mono fun e w' h => ?_
  obtain ⟨M, k, rfl, hE, hL, k0, k1, hv⟩ := h
  have hv := hv.out
  rw [lv_pad] at hv
  have hS := hE.sl N (Nat.le_refl _)
  rw [hE.len] at hS
  exact ⟨M, k, rfl, hE.grown, hS, hE.len, hL, no_carry Ll Lm hl hm hL k0 hv.1⟩
set_option maxRecDepth 100000 in
theorem Add_c (u v : Value) (l m : List Int) (w : World) (hs : Sl .u32 w u l) (ht : Sl .u32 w v m) (hl : l.length ≤ 9223372036854775807) (hm : m.length ≤ 9223372036854775807) (Ll : Lim l) (Lm : Lim m) :
    Calls Tryz.prog 87 #[u, v] w (RetL w (chk2 l m) (if chk2 l m = 0 then lv l + lv m else 0)) := by
  have C := Lib.hid (checkBoth_c u v l m w hs ht hl hm)
  obtain ⟨r, hr⟩ : ∃ r, r = chk2 l m := ⟨_, rfl⟩
  rw [← hr] at C ⊢
  by_cases h : r = 0
  · have h1 := (chk2_ok.1 (hr.symm.trans h))
    have h2 := chk_ok.1 h1.1
    have h3 := chk_ok.1 h1.2
    rw [if_pos h]
    obtain ⟨A, c, rfl, hc⟩ := hs.form
    obtain ⟨B, d, rfl, hd⟩ := ht.form
    have HS := Lib.hid hs
    have HT := Lib.hid ht
    have LL := Lib.hid Ll
    have LM := Lib.hid Lm
    obtain ⟨x, ex⟩ : ∃ x, x = l.length := ⟨_, rfl⟩
    obtain ⟨y, ey⟩ : ∃ y, y = m.length := ⟨_, rfl⟩
    have hmkx := run_make_row' (P := Tryz.prog) 24 94 (.int .u32 0) 4 Tryz.underlying24 (by kernel_rfl) rfl .i64 .i64 (x + 1) (by have := h2.1; omega) (by have := h2.1; omega)
    have hmky := run_make_row' (P := Tryz.prog) 24 94 (.int .u32 0) 4 Tryz.underlying24 (by kernel_rfl) rfl .i64 .i64 (y + 1) (by have := h3.1; omega) (by have := h3.1; omega)
    rw [show ((x + 1 : Nat) : Int) = (x : Int) + 1 by omega] at hmkx
    rw [show ((y + 1 : Nat) : Int) = (y : Int) + 1 by omega] at hmky
    rw [← ex] at hc h2 C HS ⊢
    rw [← ey] at hd h3 C HT ⊢
    have EX := Lib.hid ex
    have EY := Lib.hid ey
    have x4 : x ≤ 400 := h2.1
    have y4 : y ≤ 400 := h3.1
    clear hs ht hl hm Ll Lm hr h1 h2 h3 ex ey
    subst h
    go_enter Tryz.func87, Tryz.ntmps87
    go_wp2_with (first | (go_at_call 112; (with_reducible refine (C.out).mono ?_); rintro e w' ⟨rfl, rfl⟩) | (with_reducible refine wp_copy_limbs rfl (.tmp 21) (.tmp 22) rfl w.heap.size _ rfl _ rfl l (HS.out.below ((Below.refl _ _).alloc (Nat.le_refl _) _)) (by have := EX.out; omega) (Row.new' _ _ _ _ rfl) w.heap.size w ((Below.refl _ _).alloc (Nat.le_refl _) _) (Nat.le_refl _) ?_; intro w3 hR3 hB3) | (go_at_call 113; (with_reducible refine (addTo_row w.heap.size _ l m _ w3 hR3.out (SlA.old HT.out hB3 (Nat.le_refl _)) LL.out LM.out (by have := EX.out; omega) (by have := EY.out; omega) (by omega)).mono ?_); rintro e w4 ⟨M, k, rfl, hg4, h4⟩) | (go_at_call 93; (with_reducible refine (trim_c _ _ _ M _ h4.out.1 (by have := h4.out.2.1; omega)).mono ?_); rintro e w5 ⟨m5, rfl, hm5, hz5, hv5, rfl⟩))
    all_goals go_ret2
    all_goals exact ⟨_, _, _, rfl, trimmed (L := M) (by rw [h4.out.2.1]; exact h4.out.1) hm5 h4.out.2.2.1 hz5 hv5 h4.out.2.2.2, hB3.grown hg4 hB3.size fun k hk => by injection hk with hk; omega⟩
  · have e1 : (r != 0) = true := by simp [h]
    rw [if_neg h]
    clear hs ht hl hm Ll Lm hr h
    go_enter Tryz.func87, Tryz.ntmps87
    go_wp2_with (first | (go_at_call 112; (with_reducible refine (C.out).mono ?_); rintro e w' ⟨rfl, rfl⟩))
    go_ret2
    exact RetL.err (Below.refl _ _)
end NC
end Go.Proofs.YtelblhgagpkjmaaGreatDoor

/-
  Package nat: clone, Sub.
-/
namespace Go.Proofs.YtelblhgagpkjmaaGreatDoor
set_option linter.unusedVariables false
set_option linter.unusedSimpArgs false
open Go.RowKit
set_option linter.unusedVariables false
namespace NC
open L
open Z (Nz Tz cmpv)
theorem el_u32 : Elem 24 94 .u32 := Elem.of Tryz.underlying24 (b := 4) (by kernel_rfl) (by decide)
/-- limbs at the head of a block of the call's own -/
def Head (w : World) (B g c : Nat) (l : List Int) : Prop := B ≤ g ∧ l.length ≤ c ∧ ∃ cs, Blk w g 94 cs ∧ Wn cs 0 l
theorem own_head {w : World} {B : Nat} {v : Value} {l : List Int} (h : Own .u32 94 w B v l) (hne : l ≠ []) : ∃ g c, v = .slice (some ⟨g, 0, none⟩) l.length c ∧ Head w B g c l := by
  rcases h.2 with ⟨_, h0⟩ | ⟨g, cap, cur, rfl, hg, hgg, hc, hm, hs, ht⟩
  · exact absurd (List.eq_nil_of_length_eq_zero h0) hne
  · refine ⟨g, cap, rfl, hg, hc, cur, hgg, fun j hj => ?_⟩
    have e := congrArg (fun x => x[j]?) ht
    simp only [Nat.mul_one, List.getElem?_map] at e
    rw [List.getElem?_take, if_pos hj, List.getElem?_eq_getElem hj] at e
    rw [Nat.zero_add, ← Array.getElem?_toList, e, List.getD_eq_getElem?_getD, List.getElem?_eq_getElem hj]; rfl
theorem wp_clone {w : World} {ops : Array Oper} {rest : List Oper} {o : Oper} {a : Act} {Q : Exit → Act → World → Prop} (hgd : o.guard = none) (s x : Operand)
    (hop : o.op = Op.call { callee := Callee.builtin Builtin.append, args := #[s, x], argTypes := #[24, 24] })
    (g : Nat) (hs : a.eval s = .slice (some ⟨g, 0, none⟩) 0 0) (vx : Value) (hx : a.eval x = vx) (l : List Int) (hS : Sl .u32 w vx l) (hl : l.length ≤ 1000000000000) (hg : Blk w g 94 #[])
    (h : ∀ g' c w', Hid (Head w' g g' c l) → w.grownBy w' none → wpList Tryz.prog ops Q rest (a.put o.dst (.slice (some ⟨g', 0, none⟩) l.length c)) w') : wpList Tryz.prog ops Q (o :: rest) a w := by
  refine wpList_plain hgd fun K hK => ?_
  obtain ⟨i, hi, h0, h1, h2⟩ := el_u32.info
  obtain ⟨A, cx, rfl, hcx, hA⟩ := hS
  by_cases hM0 : l = []
  · subst hM0
    have hsrc : Src Tryz.prog i.size 24 (.slice A 0 cx) 0 [] w := by
      cases A with
      | none => exact Src.ofNil w el_u32.ht cx
      | some adx => exact Src.ofSlice w el_u32.ht adx 0 cx [] (by simp) (by intro j u hu; cases hu) (by intro u hu; cases hu)
    have hrun := run_append_nothing (P := Tryz.prog) w 24 24 o.type 94 i el_u32.ht hi (some ⟨g, 0, none⟩) 0 0 (by omega) _ hsrc
    have hx' : a.eval x = .slice A 0 cx := hx
    unfold Oper.wp
    simp [execOp, hop, resolve, invoke, builtin, hs, hx', hrun, Result.andThen]
    exact hK _ _ (h g 0 w ⟨Nat.le_refl _, Nat.le_refl _, #[], hg, (by intro j hj; simp at hj)⟩ (World.grownBy.refl _ _))
  · rcases hA with h' | ⟨adx, rfl, hb1, hc1⟩
    · exact absurd h' hM0
    · have hM : Sl .u32 w (.slice (some adx) l.length cx) l := ⟨_, cx, rfl, hcx, .inr ⟨adx, rfl, hb1, hc1⟩⟩
      have hpos := List.length_pos_iff.2 hM0
      have hbytes : (0 + l.length) * i.bytes ≤ (0 + l.length) * 8 := Nat.mul_le_mul_left _ h2
      have hstep := step_append_grows (ops := #[]) (E := True) (Q := Q) (K := K) hgd s x 24 hop 94 i (.int .u32 0) 1 i.bytes el_u32.ht hi h0 h1 rfl rfl (by decide) (some ⟨g, 0, none⟩) 0 0 [] hs (fun h => by cases h) (by simp) (by intro b hb j u hu; cases hu)
        adx l.length cx (l.map (Value.int .u32)) hx (by simp) hM.news (by intro u hu; obtain ⟨z, _, rfl⟩ := List.mem_map.1 hu; rfl) (by omega) (by unfold maxLen; omega) (by omega) ?_
      · rwa [if_pos (by simp [Region.wanted, hgd])] at hstep
      · intro v' w' hown hgr
        have hown' : Own .u32 94 w' w.heap.size v' l := by
          unfold Own
          simpa using hown
        obtain ⟨g', c', rfl, hd⟩ := own_head hown' hM0
        refine hK _ _ (h g' c' w' ⟨Nat.le_trans (Nat.le_of_lt hg.lt) hd.1, hd.2⟩ ?_)
        exact hgr
/-- a copy, in a block of the call's own -/
def RetH (w : World) (l : List Int) (e : Ending) (w' : World) : Prop := ∃ g c, e = .returned (.slice (some ⟨g, 0, none⟩) l.length c) ∧ Hid (Head w' w.heap.size g c l) ∧ Below w.heap.size w w'
theorem clone_c (v : Value) (l : List Int) (w : World) (hs : Sl .u32 w v l) (hl : l.length ≤ 1000000000) : Calls Tryz.prog 116 #[v] w (RetH w l) := by
  obtain ⟨A, c, rfl, hc⟩ := hs.form
  have HS := Lib.hid (hs.alloc (.cells #[] 94))
  obtain ⟨n, hn⟩ : ∃ n, n = l.length := ⟨_, rfl⟩
  rw [← hn] at hc hl HS ⊢
  have HN := Lib.hid hn
  clear hs hn
  go_enter Tryz.func116, Tryz.ntmps116
  go_wp2_with (first | (at_builtin; refine wp_clone rfl (.tmp 3) (.tmp 4) rfl w.heap.size rfl _ rfl l HS.out (by have := HN.out; omega) (Blk.new _ _ _) ?_; intro g' c' w2 hH hg))
  go_ret
  exact ⟨g', c', rfl, hH, ((Below.refl _ _).alloc (Nat.le_refl _) _).grown hg (by simp) fun k hk => by cases hk⟩
/-- what Sub tells of an error -/
def errSub (l m : List Int) : Int := if chk2 l m = 0 then (if lv l < lv m then 1 else 0) else chk2 l m
end NC
end Go.Proofs.YtelblhgagpkjmaaGreatDoor

/-
  Words for memory: a stretch within a block of limbs that is known whole, written in place.
-/
namespace Go.Proofs.YtelblhgagpkjmaaGreatDoor
set_option linter.unusedVariables false
set_option linter.unusedSimpArgs false
open Go.RowKit
set_option linter.unusedVariables false
namespace NC
open L
open Z (Nz Tz cmpv)
theorem Wn.part (P : List Int) (i n : Nat) : Wn ((P.map (Value.int .u32)).toArray) i ((P.drop i).take n) := by
  intro j hj
  have hj' : i + j < P.length := by simp at hj; omega
  have hn : j < n := by simp at hj; omega
  rw [List.getElem?_toArray, List.getElem?_map, List.getElem?_eq_getElem hj', List.getD_eq_getElem?_getD, List.getElem?_take, if_pos hn, List.getElem?_drop, List.getElem?_eq_getElem hj']
  rfl
theorem Ed.row {w w' : World} {g i n : Nat} {P M : List Int} (h : Ed w w' g ((P.map (Value.int .u32)).toArray) i n M) (hin : i + n ≤ P.length) : Row .u32 94 w' g (P.take i ++ (M ++ P.drop (i + n))) := by
  obtain ⟨cs', hb, hsz, hM, hf⟩ := h.blk
  have e : cs' = ((P.take i ++ (M ++ P.drop (i + n))).map (Value.int .u32)).toArray := by
    apply Array.ext_getElem?
    intro j
    have hlen := h.len
    have hr : ∀ X : List Int, ((X.map (Value.int .u32)).toArray)[j]? = (X[j]?).map (Value.int .u32) := fun X => by simp
    rw [hr]
    rcases Nat.lt_or_ge j i with h1 | h1
    · rw [hf j (.inl h1), List.getElem?_append_left (by simp; omega), List.getElem?_take, if_pos h1, hr]
    · rw [List.getElem?_append_right (by simp; omega), List.length_take, Nat.min_eq_left (by omega)]
      rcases Nat.lt_or_ge j (i + n) with h2 | h2
      · have := hM (j - i) (by omega)
        rw [show i + (j - i) = j by omega] at this
        rw [this, List.getElem?_append_left (by omega), List.getD_eq_getElem?_getD, List.getElem?_eq_getElem (by omega)]; rfl
      · rw [hf j (.inr h2), List.getElem?_append_right (by omega), List.getElem?_drop, hr, show i + n + (j - i - M.length) = j by omega]
  unfold Row
  rw [← e]; exact hb
/-- multiplying under way: so many limbs of l have been taken times m -/
structure MulN (l m : List Int) (N i : Nat) (P : List Int) : Prop where
  len : P.length = N
  lim : Lim P
  val : lv P = lv (l.take i) * lv m
  zero : ∀ j, i + m.length ≤ j → P.getD j 0 = 0
theorem MulN.start (l m : List Int) (N : Nat) : MulN l m N 0 (List.replicate N 0) := ⟨by simp, Lim.rep _, by rw [lv_rep]; simp [lv], fun j _ => Z.getD_rep _ _⟩
theorem MulN.step {l m P M : List Int} {N i : Nat} {k q : Int} (h : MulN l m N i P) (hi : i + m.length < N) (hq : l.getD i 0 = q) (hM : M.length = N - i) (lM : Lim M) (k0 : 0 ≤ k) (k1 : k < 4294967296)
    (hv : lv M + 4294967296 ^ m.length * k = lv (P.drop i) + q * lv m) (hf : ∀ j, m.length ≤ j → M.getD j 0 = (P.drop i).getD j 0) : MulN l m N (i + 1) ((P.take i ++ M).set (i + m.length) k) := by
  have hl : (P.take i ++ M).length = N := by simp [hM, h.len]; omega
  have e1 : ∀ j, (P.drop i).getD j 0 = P.getD (i + j) 0 := fun j => by simp [List.getD_eq_getElem?_getD]
  have e2 : ∀ j, i ≤ j → (P.take i ++ M).getD j 0 = M.getD (j - i) 0 := fun j hj => by
    rw [List.getD_eq_getElem?_getD, List.getElem?_append_right (by simp [h.len]; omega), List.getD_eq_getElem?_getD]
    simp [h.len, Nat.min_eq_left (show i ≤ N by omega)]
  refine ⟨by simp [hl], (((h.lim.take i).app lM).set _ k0 k1), ?_, fun j hj => ?_⟩
  · rw [lv_set _ _ _ (by omega), e2 _ (by omega), show i + m.length - i = m.length by omega, hf _ (Nat.le_refl _), e1, h.zero _ (Nat.le_refl _), lv_append, lv_take_succ, hq]
    have h2 := lv_cut P i (by rw [h.len]; omega)
    have h3 := h.val
    have e3 : (P.take i).length = i := by simp [h.len]; omega
    rw [e3, Int.pow_add]
    have e4 : (4294967296 : Int) ^ i * (lv M + 4294967296 ^ m.length * k) = 4294967296 ^ i * (lv (P.drop i) + q * lv m) := by rw [hv]
    grind
  · rw [getD_set (by omega), if_neg (by omega), e2 _ (by omega), hf _ (by omega), e1, h.zero _ (by omega)]
end NC
end Go.Proofs.YtelblhgagpkjmaaGreatDoor

/-
  Package nat: Sub, Mul.
-/
namespace Go.Proofs.YtelblhgagpkjmaaGreatDoor
set_option linter.unusedVariables false
set_option linter.unusedSimpArgs false
open Go.RowKit
set_option linter.unusedVariables false
namespace NC
open L
open Z (Nz Tz cmpv)
def RetRow0 (w : World) (g n c : Nat) (z : Int) (e : Ending) (w' : World) : Prop := ∃ M, e = .returned (.tuple #[]) ∧ w.grownBy w' (some g) ∧ Hid (Sl .u32 w' (.slice (some ⟨g, 0, none⟩) n c) M ∧ M.length = n ∧ Lim M ∧ lv M = z)
theorem subFrom_head (B g c : Nat) (l m : List Int) (vb : Value) (w : World) (hH : Head w B g c l) (hY : SlA .u32 w vb m g) (Ll : Lim l) (Lm : Lim m) (nm : Nz m) (hle : lv m ≤ lv l) (hN : l.length ≤ 1000000000) :
    Calls Tryz.prog 117 #[.slice (some ⟨g, 0, none⟩) l.length c, vb] w (RetRow0 w g l.length c (lv l - lv m)) := by
  obtain ⟨hB, hc, cs, hb, hw⟩ := hH
  have hlen : m.length ≤ l.length := by
    rcases Nat.lt_or_ge l.length m.length with h | h
    · have := lv_len Ll Lm nm h; omega
    · exact h
  refine (subFrom_c g 0 l.length c cs l m vb w hb hw rfl hY Ll Lm hlen hN hc hle).mono fun e w' h => ?_
  obtain ⟨M, rfl, hE, hL, hv⟩ := h
  have hS := hE.sl c hc
  rw [hE.len] at hS
  exact ⟨M, rfl, hE.grown, hS, hE.len, hL, hv.out⟩
theorem Sub_c (u v : Value) (l m : List Int) (w : World) (hs : Sl .u32 w u l) (ht : Sl .u32 w v m) (hl : l.length ≤ 9223372036854775807) (hm : m.length ≤ 9223372036854775807) (Ll : Lim l) (Lm : Lim m) :
    Calls Tryz.prog 92 #[u, v] w (RetL w (errSub l m) (if errSub l m = 0 then lv l - lv m else 0)) := by
  have C := Lib.hid (checkBoth_c u v l m w hs ht hl hm)
  by_cases h : chk2 l m = 0
  · have h1 := (chk2_ok.1 h)
    have h2 := chk_ok.1 h1.1
    have h3 := chk_ok.1 h1.2
    have P := Lib.hid (compare_c u v l m w hs ht Ll Lm h2.2 h3.2 (by omega) (by omega))
    have HC := Lib.hid (clone_c u l)
    obtain ⟨A, c, rfl, hc⟩ := hs.form
    obtain ⟨B, d, rfl, hd⟩ := ht.form
    rw [h] at C
    by_cases hlt : lv l < lv m
    · have he : errSub l m = 1 := by unfold errSub; rw [if_pos h, if_pos hlt]
      rw [he, if_neg (by decide)]
      rw [Z.cmpv_lt hlt] at P
      clear hs ht hl hm Ll Lm h h1 h2 h3 hlt he hc hd HC
      go_enter Tryz.func92, Tryz.ntmps92
      go_wp2_with (first | (go_at_call 112; (with_reducible refine (C.out).mono ?_); rintro e w' ⟨rfl, rfl⟩) | (go_at_call 115; (with_reducible refine (P.out).mono ?_); rintro e w2 ⟨rfl, k, rfl⟩))
      go_ret2
      exact RetL.err ⟨rfl, rfl, rfl, Nat.le_refl _, fun _ _ => rfl⟩
    · have he : errSub l m = 0 := by unfold errSub; rw [if_pos h, if_neg hlt]
      rw [he, if_pos rfl]
      have q0 := Z.cmpv_ge0 hlt
      generalize cmpv (lv l) (lv m) = q at P q0
      have e1 : decide (q < 0) = false := by simp; omega
      have HS := Lib.hid hs
      have HT := Lib.hid ht
      have LL := Lib.hid Ll
      have LM := Lib.hid Lm
      have HLE : Hid (lv m ≤ lv l) := Int.not_lt.1 hlt
      have H2 := Lib.hid h2
      have H3 := Lib.hid h3
      obtain ⟨x, ex⟩ : ∃ x, x = l.length := ⟨_, rfl⟩
      obtain ⟨y, ey⟩ : ∃ y, y = m.length := ⟨_, rfl⟩
      rw [← ex] at hc C HS P HC ⊢
      rw [← ey] at hd C HT P ⊢
      have EX := Lib.hid ex
      clear hs ht hl hm Ll Lm h h1 h2 h3 hlt he q0 ex ey
      go_enter Tryz.func92, Tryz.ntmps92
      go_wp2_with (first | (go_at_call 112; (with_reducible refine (C.out).mono ?_); rintro e w' ⟨rfl, rfl⟩) | (go_at_call 115; (with_reducible refine (P.out).mono ?_); rintro e w2 ⟨rfl, k, rfl⟩) | (go_at_call 116; (with_reducible refine (HC.out (w.drewN k) (HS.out.drewN k) (by have := H2.out.1; have := EX.out; omega)).mono ?_); rintro e w3 ⟨g, c3, rfl, hH3, hB3⟩ ; have hg3 : w.heap.size ≤ g := hH3.out.1 ; have HT3 := SlA.old (HT.out.drewN k) hB3 hg3) | (go_at_call 117; (with_reducible refine (subFrom_head _ g c3 l m _ w3 hH3.out HT3 LL.out LM.out H3.out.2 HLE.out (by have := H2.out.1; omega)).mono ?_); rintro e w4 ⟨M, rfl, hg4, h4⟩) | (go_at_call 93; (with_reducible refine (trim_c _ _ _ M _ h4.out.1 (by have := h4.out.2.1; have := H2.out.1; omega)).mono ?_); rintro e w5 ⟨m5, rfl, hm5, hz5, hv5, rfl⟩))
      go_ret2
      have hB0 : Below w.heap.size w w3 := ⟨hB3.os, hB3.tape, hB3.output, hB3.size, hB3.block⟩
      exact ⟨_, _, _, rfl, trimmed (L := M) (by rw [h4.out.2.1]; exact h4.out.1) hm5 h4.out.2.2.1 hz5 hv5 h4.out.2.2.2, hB0.grown hg4 hB0.size fun k hk => by injection hk with hk; have := hH3.out.1; exact hk ▸ this⟩
  · have he : errSub l m = chk2 l m := by unfold errSub; rw [if_neg h]
    obtain ⟨r, hr⟩ : ∃ r, r = chk2 l m := ⟨_, rfl⟩
    rw [he]
    rw [← hr] at C h ⊢
    have e1 : (r != 0) = true := by simp [h]
    rw [if_neg h]
    clear hs ht hl hm Ll Lm hr h he
    go_enter Tryz.func92, Tryz.ntmps92
    go_wp2_with (first | (go_at_call 112; (with_reducible refine (C.out).mono ?_); rintro e w' ⟨rfl, rfl⟩))
    go_ret2
    exact RetL.err (Below.refl _ _)
end NC
end Go.Proofs.YtelblhgagpkjmaaGreatDoor

/-
  Plain mathematics: limbs shifted up and down.
-/
namespace Go.Proofs.YtelblhgagpkjmaaGreatDoor.L
set_option linter.unusedVariables false
set_option linter.unusedSimpArgs false
open Z (Nz Tz cmpv)
theorem two_pos (r : Nat) : (0 : Int) < 2 ^ r := Int.pow_pos (by decide)
theorem two_split {r : Nat} (hr : r ≤ 32) : ∃ p' : Int, 0 < p' ∧ 2 ^ r * p' = 4294967296 :=
  ⟨2 ^ (32 - r), two_pos _, by rw [← Int.pow_add, show r + (32 - r) = 32 by omega]; decide⟩
theorem sh_low {q : Int} {r : Nat} (hr : r ≤ 32) (h0 : 0 ≤ q) (h1 : q < 4294967296) :
    0 ≤ (q * 2 ^ r) % 4294967296 ∧ (q * 2 ^ r) % 4294967296 + 2 ^ r ≤ 4294967296 ∧ (q * 2 ^ r) % 4294967296 % 2 ^ r = 0 ∧ 0 ≤ (q * 2 ^ r) / 4294967296 ∧ (q * 2 ^ r) / 4294967296 < 2 ^ r := by
  obtain ⟨p', hp', e⟩ := two_split hr
  have hp := two_pos r
  have e1 : (q * 2 ^ r) % 4294967296 = 2 ^ r * (q % p') := by
    conv => lhs; rw [← e]
    rw [Int.mul_comm q, Int.mul_emod_mul_of_pos _ _ hp]
  have h2 := Int.emod_nonneg q (show p' ≠ 0 by omega)
  have h3 := Int.emod_lt_of_pos q hp'
  have h4 : 2 ^ r * (q % p' + 1) ≤ 2 ^ r * p' := Int.mul_le_mul_of_nonneg_left (by omega) (Int.le_of_lt hp)
  have h5 : 0 ≤ 2 ^ r * (q % p') := Int.mul_nonneg (Int.le_of_lt hp) h2
  refine ⟨by omega, by rw [e1]; grind, by rw [e1]; exact Int.mul_emod_right _ _, Int.ediv_nonneg (Int.mul_nonneg h0 (Int.le_of_lt hp)) (by decide), ?_⟩
  rw [Int.ediv_lt_iff_lt_mul (by decide), Int.mul_comm]
  exact Int.mul_lt_mul_of_pos_left h1 hp
/-- shifting up under way: so many limbs of l have been put s limbs and r bits higher -/
structure ShU (l : List Int) (s r N i : Nat) (P : List Int) : Prop where
  len : P.length = N
  lim : Lim P
  val : lv P = 4294967296 ^ s * (2 ^ r * lv (l.take i))
  low : P.getD (s + i) 0 < 2 ^ r
  zero : ∀ j, s + i < j → P.getD j 0 = 0
theorem ShU.start (l : List Int) (s r N : Nat) : ShU l s r N 0 (List.replicate N 0) :=
  ⟨by simp, Lim.rep _, by rw [lv_rep]; simp [lv], by rw [Z.getD_rep]; exact two_pos r, fun j _ => Z.getD_rep _ _⟩
theorem ShU.or_ {l P : List Int} {s r N i : Nat} {q : Int} (h : ShU l s r N i P) (hr : r ≤ 32) (h0 : 0 ≤ q) (h1 : q < 4294967296) :
    bits .or .u32 (P.getD (s + i) 0) ((q * 2 ^ r) % 4294967296) = P.getD (s + i) 0 + (q * 2 ^ r) % 4294967296 := by
  obtain ⟨a1, a2, a3, _⟩ := sh_low hr h0 h1
  have := two_pos r
  exact or_low _ _ r hr (h.lim.at_ _).1 h.low a1 a3 (by omega)
theorem ShU.step {l P : List Int} {s r N i : Nat} {q : Int} (h : ShU l s r N i P) (hr : r ≤ 32) (hi : s + i + 1 < N) (hq : l.getD i 0 = q) (h0 : 0 ≤ q) (h1 : q < 4294967296) :
    ShU l s r N (i + 1) ((P.set (s + i) (P.getD (s + i) 0 + (q * 2 ^ r) % 4294967296)).set (s + i + 1) ((q * 2 ^ r) / 4294967296)) := by
  obtain ⟨a1, a2, a3, a4, a5⟩ := sh_low hr h0 h1
  have b := h.lim.at_ (s + i)
  have hlow := h.low
  have h32 : (2 : Int) ^ r ≤ 4294967296 := by omega
  have hl1 : (P.set (s + i) (P.getD (s + i) 0 + (q * 2 ^ r) % 4294967296)).length = N := by simp [h.len]
  have hP : s + i < P.length := by rw [h.len]; omega
  refine ⟨by simp [h.len], (h.lim.set _ (by omega) (by omega)).set _ a4 (by omega), ?_, ?_, fun j hj => ?_⟩
  · rw [lv_set _ _ _ (by omega), lv_set _ _ _ hP, getD_set hP, if_neg (by omega), h.zero (s + i + 1) (by omega), lv_take_succ, hq, h.val]
    have e := Int.emod_add_mul_ediv (q * 2 ^ r) 4294967296
    have e2 : (4294967296 : Int) ^ (s + i) * ((q * 2 ^ r) % 4294967296 + 4294967296 * ((q * 2 ^ r) / 4294967296)) = 4294967296 ^ (s + i) * (q * 2 ^ r) := by rw [e]
    rw [Int.pow_succ]
    rw [Int.pow_add] at e2 ⊢
    grind
  · rw [getD_set (by omega), if_pos (by omega)]; exact a5
  · rw [getD_set (by omega), if_neg (by omega), getD_set hP, if_neg (by omega)]; exact h.zero _ (by omega)
/-- shifting down under way -/
structure ShD (l : List Int) (s r N i : Nat) (P : List Int) : Prop where
  len : P.length = N
  lim : Lim P
  val : lv (P.take i) + 4294967296 ^ i * (lv (l.drop (s + i)) / 2 ^ r) = lv (l.drop s) / 2 ^ r
theorem ShD.start (l : List Int) (s r N : Nat) : ShD l s r N 0 (List.replicate N 0) := ⟨by simp, Lim.rep _, by simp [lv]⟩
theorem down_limb {r : Nat} (hr : r ≤ 32) {a a' D : Int} (h0 : 0 ≤ a) (h1 : a < 4294967296) (h2 : 0 ≤ a') (h3 : a' < 4294967296) :
    (a + 4294967296 * (a' + 4294967296 * D)) / 2 ^ r = ((a + 4294967296 * a') / 2 ^ r) % 4294967296 + 4294967296 * ((a' + 4294967296 * D) / 2 ^ r) := by
  obtain ⟨p', hp', e⟩ := two_split hr
  have hp := two_pos r
  generalize (2 : Int) ^ r = p at *
  have hpn : p ≠ 0 := by omega
  have e1 : (a + 4294967296 * a') / p = a / p + p' * a' := by
    rw [← e, Int.mul_assoc, Int.add_mul_ediv_left _ _ hpn]
  have e2 : (a + 4294967296 * (a' + 4294967296 * D)) / p = a / p + p' * (a' + 4294967296 * D) := by
    conv => lhs; rw [← e, Int.mul_assoc, Int.add_mul_ediv_left _ _ hpn]
    rw [e]
  have e3 : (a' + 4294967296 * D) / p = a' / p + p' * D := by
    rw [← e, Int.mul_assoc, Int.add_mul_ediv_left _ _ hpn]
  have e4 := Int.emod_add_mul_ediv a' p
  have v0 := Int.emod_nonneg a' hpn
  have v1 := Int.emod_lt_of_pos a' hp
  have w0 : 0 ≤ a / p := Int.ediv_nonneg h0 (Int.le_of_lt hp)
  have w1 : a / p < p' := by rw [Int.ediv_lt_iff_lt_mul hp, Int.mul_comm, e]; exact h1
  have e5 : (a + 4294967296 * a') / p % 4294967296 = a / p + p' * (a' % p) := by
    rw [e1]
    have : a / p + p' * a' = (a / p + p' * (a' % p)) + 4294967296 * (a' / p) := by rw [← e]; grind
    rw [this, Int.add_mul_emod_self_left]
    refine Int.emod_eq_of_lt (Int.add_nonneg w0 (Int.mul_nonneg (Int.le_of_lt hp') v0)) ?_
    have : p' * (a' % p + 1) ≤ p' * p := Int.mul_le_mul_of_nonneg_left (by omega) (Int.le_of_lt hp')
    rw [← e]; grind
  rw [e5, e2, e3, ← e]
  grind
theorem ShD.step {l P : List Int} {s r N i : Nat} {a a' : Int} (h : ShD l s r N i P) (hl : Lim l) (hr : r ≤ 32) (hi : i < N) (hN : N = l.length - s) (ha : l.getD (s + i) 0 = a) (ha' : l.getD (s + i + 1) 0 = a') :
    ShD l s r N (i + 1) (P.set i (((a + 4294967296 * a') / 2 ^ r) % 4294967296)) := by
  have b := hl.at_ (s + i)
  have b' := hl.at_ (s + i + 1)
  rw [ha] at b
  rw [ha'] at b'
  refine ⟨by simp [h.len], h.lim.set _ (Int.emod_nonneg _ (by decide)) (Int.emod_lt_of_pos _ (by decide)), ?_⟩
  rw [lv_take_succ, getD_set (by rw [h.len]; exact hi), if_pos rfl, List.take_set_of_le (Nat.le_refl _), ← h.val, Int.pow_succ]
  have e1 := lv_drop (L := l) (s + i) (by omega)
  have e2 : lv (l.drop (s + i + 1)) = a' + 4294967296 * lv (l.drop (s + i + 1 + 1)) := by
    rcases Nat.lt_or_ge (s + i + 1) l.length with h | h
    · rw [lv_drop _ h, ha']
    · rw [List.drop_of_length_le h, List.drop_of_length_le (by omega), ← ha', Z.getD_out h]; rfl
  rw [ha, e2] at e1
  rw [show s + (i + 1) = s + i + 1 by omega, e2, e1, down_limb hr b.1 b.2 b'.1 b'.2]
  grind
theorem lv_div (l : List Int) (hl : Lim l) (s : Nat) (hs : s ≤ l.length) : lv (l.drop s) = lv l / 4294967296 ^ s := by
  have h := lv_cut l s hs
  have h1 := lv_lt (hl.take s)
  rw [List.length_take, Nat.min_eq_left hs] at h1
  have h2 := lv_nonneg (hl.take s)
  rw [h, Int.add_mul_ediv_left _ _ (by have := pow_pos s; omega), Int.ediv_eq_zero_of_lt h2 h1]; omega
theorem pow_n (n : Nat) : (2 : Int) ^ n = 4294967296 ^ (n / 32) * 2 ^ (n % 32) := by
  rw [pow_two, ← Int.pow_add, show 32 * (n / 32) + n % 32 = n by omega]
theorem ShU.done {l P : List Int} {n N : Nat} (h : ShU l (n / 32) (n % 32) N l.length P) : lv P = lv l * 2 ^ n := by
  rw [h.val, List.take_length, pow_n n]; grind
theorem ShD.done {l P : List Int} {n N : Nat} (hl : Lim l) (hN : N = l.length - n / 32) (hs : n / 32 ≤ l.length) (h : ShD l (n / 32) (n % 32) N N P) : lv P = lv l / 2 ^ n := by
  have := h.val
  rw [lv_take_all (by rw [h.len]; exact Nat.le_refl _), List.drop_of_length_le (by omega)] at this
  rw [pow_n, ← Int.ediv_ediv_of_nonneg (Int.le_of_lt (pow_pos _)), ← lv_div l hl _ hs, ← this]
  simp [lv]
theorem down_none {l : List Int} (hl : Lim l) {n : Nat} (h : l.length ≤ n / 32) : lv l / 2 ^ n = 0 := by
  refine Int.ediv_eq_zero_of_lt (lv_nonneg hl) (Int.lt_of_lt_of_le (lv_lt hl) ?_)
  rw [pow_n]
  have h1 := pow_mono h
  have h2 : (4294967296 : Int) ^ (n / 32) * 1 ≤ 4294967296 ^ (n / 32) * 2 ^ (n % 32) := Int.mul_le_mul_of_nonneg_left (by have := two_pos (n % 32); omega) (Int.le_of_lt (pow_pos _))
  omega
end Go.Proofs.YtelblhgagpkjmaaGreatDoor.L

/-
  Package nat: shiftUp, shiftDown.
-/
namespace Go.Proofs.YtelblhgagpkjmaaGreatDoor
set_option linter.unusedVariables false
set_option linter.unusedSimpArgs false
open Go.RowKit
set_option linter.unusedVariables false
namespace NC
open L
open Z (Nz Tz cmpv)
theorem shiftUp_c (v : Value) (l : List Int) (n : Nat) (w : World) (hs : Sl .u32 w v l) (Ll : Lim l) (hl : l.length ≤ 1000000) (hn : n ≤ 1000000) :
    Calls Tryz.prog 111 #[v, .int .i64 n] w (RetV w (lv l * 2 ^ n)) := by
  obtain ⟨A, c, rfl, hc⟩ := hs.form
  have HS := Lib.hid hs
  have LL := Lib.hid Ll
  obtain ⟨x, ex⟩ : ∃ x, x = l.length := ⟨_, rfl⟩
  obtain ⟨s, es⟩ : ∃ s, s = n / 32 := ⟨_, rfl⟩
  obtain ⟨r, er⟩ : ∃ r, r = n % 32 := ⟨_, rfl⟩
  have hs1 : ((n : Int) / 32) = (s : Int) := by omega
  have hr1 : ((n : Int) % 32) = (r : Int) := by omega
  have hr2 : r < 32 := by omega
  have hs2 : s ≤ 100000 := by omega
  rw [← ex] at hc hl HS ⊢
  have EX := Lib.hid ex
  have hmk := run_make_row' (P := Tryz.prog) 24 94 (.int .u32 0) 4 Tryz.underlying24 (by kernel_rfl) rfl .i64 .i64 (s + x + 1) (by omega) (by omega)
  rw [show ((s + x + 1 : Nat) : Int) = (s : Int) + x + 1 by omega] at hmk
  have hD : ∀ N P, ShU l s r N x P → lv P = lv l * 2 ^ n := fun N P h => ShU.done (N := N) (by rw [← es, ← er, ← ex]; exact h)
  have HD := Lib.hid hD
  generalize lv l * 2 ^ n = zz at HD ⊢
  clear hs Ll ex es er hD
  go_enter Tryz.func111, Tryz.ntmps111
  go_wp2
  clear hmk
  go_loopw [23] (fun iv wr => ∃ (i : Nat) (P : List Int), iv = .int .i64 i ∧ i ≤ x ∧ Hid (ShU l s r (s + x + 1) i P) ∧ Hid (Row .u32 94 wr w.heap.size P) ∧ Hid (Below w.heap.size w wr)) (fun iv _ => x - (intOf iv).toNat)
  case atStart => exact ⟨0, _, rfl, by omega, ShU.start _ _ _ _, Row.new' _ _ _ _ rfl, (Below.refl _ _).alloc (Nat.le_refl _) _⟩
  case round =>
    obtain ⟨i, P, rfl, hi, hI, hR, hB⟩ := hrel
    by_cases hix : i < x
    · obtain ⟨adx, cx, exx, _, _, hcx⟩ := (HS.out.below hB.out).at_ i (by rw [← EX.out]; exact hix)
      injection exx with ex1 ex2 ex3
      subst ex1
      obtain ⟨q, hq⟩ : ∃ q, l.getD i 0 = q := ⟨_, rfl⟩
      have bq := LL.out.at_ i
      rw [hq] at hcx bq
      have hpl := hI.out.len
      have hc1 := hR.out.at_ (s + i) (by omega)
      have hc2 := hR.out.at_ (s + i + 1) (by omega)
      have hf1 := hR.out.frozen (s + i)
      have hf2 := hR.out.frozen (s + i + 1)
      have hor := hI.out.or_ (show r ≤ 32 by omega) bq.1 bq.2
      have hst := hI.out.step (show r ≤ 32 by omega) (by omega) hq bq.1 bq.2
      obtain ⟨a1, a2, a3, a4, a5⟩ := sh_low (show r ≤ 32 by omega) bq.1 bq.2
      have tp := two_pos r
      obtain ⟨p, hp⟩ : ∃ p, P.getD (s + i) 0 = p := ⟨_, rfl⟩
      have bp := hI.out.lim.at_ (s + i)
      have t0 : 0 ≤ q * 2 ^ r := Int.mul_nonneg bq.1 (by omega)
      have t1 : q * 2 ^ r < 18446744073709551616 := by omega
      have hwr : IntKind.u64.wrap (q * 2 ^ r) = q * 2 ^ r := Go.u64_wrap_id _ t0 t1
      rw [hp] at hc1 hor hst bp
      obtain ⟨t, ht⟩ : ∃ t, q * 2 ^ r = t := ⟨_, rfl⟩
      rw [ht] at hwr hor hst a1 a2 a3 a4 a5 t0 t1
      rw [← ht] at hwr
      have hwr2 : IntKind.u64.wrap (q * 2 ^ r) = t := by rw [hwr, ht]
      have HST := Lib.hid hst
      have t2 : 2 ^ r ≤ (4294967296 : Int) := by omega
      have t3 : t / 4294967296 < 4294967296 := by omega
      have t4 : t / 4294967296 % 4294967296 = t / 4294967296 := by omega
      clear ex2 ex3 hst hwr hp ht a1 a2 a3 tp hq a4 a5 t2
      go_wp2
      exact ⟨⟨i + 1, _, by simp, by omega, HST.out, ((hR.out.set_ (s + i) _).set_ (s + i + 1) _), ((hB.out.setCell (Nat.le_refl _) _).setCell (Nat.le_refl _) _)⟩, by simp only [intOf]; omega⟩
    · obtain rfl : x = i := by omega
      have hpl := hI.out.len
      have hS := hR.out.sl (s + x + 1) (by omega)
      have T := trim_c (some ⟨w.heap.size, 0, none⟩) (s + x + 1) (s + x + 1) P wr (by rw [hpl] at hS; exact hS) (by omega)
      have T := Lib.hid T
      have HS2 := Lib.hid hS
      have HV := Lib.hid (HD.out _ _ hI.out)
      clear hpl hS
      go_wp2_with (first | (go_at_call 93; (with_reducible refine (T.out).mono ?_); rintro e w5 ⟨m5, rfl, hm5, hz5, hv5, rfl⟩))
      go_ret
      exact ⟨_, _, _, rfl, trimmed HS2.out hm5 hI.out.lim hz5 hv5 HV.out, hB.out⟩
end NC
end Go.Proofs.YtelblhgagpkjmaaGreatDoor

/-
  Package nat: shiftDown.
-/
namespace Go.Proofs.YtelblhgagpkjmaaGreatDoor
set_option linter.unusedVariables false
set_option linter.unusedSimpArgs false
open Go.RowKit
set_option linter.unusedVariables false
namespace NC
open L
open Z (Nz Tz cmpv)
theorem shiftDown_c (v : Value) (l : List Int) (n : Nat) (w : World) (hs : Sl .u32 w v l) (Ll : Lim l) (hl : l.length ≤ 1000000) (hn : n ≤ 1000000) :
    Calls Tryz.prog 109 #[v, .int .i64 n] w (RetV w (lv l / 2 ^ n)) := by
  obtain ⟨A, c, rfl, hc⟩ := hs.form
  have HS := Lib.hid hs
  have LL := Lib.hid Ll
  obtain ⟨x, ex⟩ : ∃ x, x = l.length := ⟨_, rfl⟩
  obtain ⟨s, es⟩ : ∃ s, s = n / 32 := ⟨_, rfl⟩
  obtain ⟨r, er⟩ : ∃ r, r = n % 32 := ⟨_, rfl⟩
  have hs1 : ((n : Int) / 32) = (s : Int) := by omega
  have hr1 : ((n : Int) % 32) = (r : Int) := by omega
  have hr2 : r < 32 := by omega
  have hs2 : s ≤ 100000 := by omega
  rw [← ex] at hc hl HS ⊢
  by_cases hxs : x ≤ s
  · have hz : lv l / 2 ^ n = 0 := down_none Ll (by rw [← ex, ← es]; exact hxs)
    rw [hz]
    have e1 : decide ((s : Int) ≥ (x : Int)) = true := by simp; omega
    clear hs Ll es er hz HS LL
    clear ex
    go_enter Tryz.func109, Tryz.ntmps109
    go_wp2
    go_ret
    exact ⟨_, _, _, rfl, NV.nil _ _ _, Below.refl _ _⟩
  · have EX := Lib.hid ex
    obtain ⟨N, eN⟩ : ∃ N, N = x - s := ⟨_, rfl⟩
    have hmk := run_make_row' (P := Tryz.prog) 24 94 (.int .u32 0) 4 Tryz.underlying24 (by kernel_rfl) rfl .i64 .i64 N (by omega) (by omega)
    rw [show ((N : Nat) : Int) = (x : Int) - s by omega] at hmk
    have hD : ∀ P, ShD l s r N N P → lv P = lv l / 2 ^ n := fun P h => ShD.done (N := N) Ll (by rw [← es, ← ex]; exact eN) (by rw [← es, ← ex]; omega) (by rw [← es, ← er]; exact h)
    have HD := Lib.hid hD
    generalize lv l / 2 ^ n = zz at HD ⊢
    have hN1 : s + N = x := by omega
    have HN := Lib.hid eN
    clear hs Ll ex es er hD eN
    go_enter Tryz.func109, Tryz.ntmps109
    go_wp2
    clear hmk
    go_loopw [25] (fun iv wr => ∃ (i : Nat) (P : List Int), iv = .int .i64 i ∧ i ≤ N ∧ Hid (ShD l s r N i P) ∧ Hid (Row .u32 94 wr w.heap.size P) ∧ Hid (Below w.heap.size w wr)) (fun iv _ => N - (intOf iv).toNat)
    case atStart => exact ⟨0, _, rfl, by omega, ShD.start _ _ _ _, Row.new' _ _ _ _ rfl, (Below.refl _ _).alloc (Nat.le_refl _) _⟩
    case round =>
      obtain ⟨i, P, rfl, hi, hI, hR, hB⟩ := hrel
      by_cases hix : i < N
      · obtain ⟨adx, cx, exx, _, _, hcx⟩ := (HS.out.below hB.out).at_ (s + i) (by rw [← EX.out]; omega)
        injection exx with ex1 ex2 ex3
        subst ex1
        obtain ⟨a, ha⟩ : ∃ a, l.getD (s + i) 0 = a := ⟨_, rfl⟩
        have ba := LL.out.at_ (s + i)
        rw [ha] at hcx ba
        have hpl := hI.out.len
        have hc1 := hR.out.at_ i (by omega)
        have hf1 := hR.out.frozen i
        clear ex2 ex3
        by_cases hlast : s + i + 1 < x
        · obtain ⟨ady, cy, eyy, _, _, hcy⟩ := (HS.out.below hB.out).at_ (s + i + 1) (by rw [← EX.out]; omega)
          injection eyy with ey1 ey2 ey3
          injection ey1 with ey1
          subst ey1
          clear ey2 ey3
          obtain ⟨b, hb⟩ : ∃ b, l.getD (s + i + 1) 0 = b := ⟨_, rfl⟩
          have bb := LL.out.at_ (s + i + 1)
          rw [hb] at hcy bb
          have hst := Lib.hid (hI.out.step LL.out (show r ≤ 32 by omega) hix (by rw [← EX.out]; exact HN.out) ha hb)
          have e1 : (s : Int) + i + 1 < x := by omega
          have hcy2 : wr.cell? { block := adx.block, off := adx.off + (s + i + 1) } = some (.int .u32 b) := by have h := hcy; unfold Addr.add at h; rwa [if_neg (by omega)] at h
          have hor : bits .or .u64 a (b * 4294967296) = a + 4294967296 * b := by rw [u64_or32 a (b * 4294967296) ba.1 ba.2 (by omega) (by omega) (by omega)]; omega
          clear ha hb
          go_wp2
          exact ⟨⟨i + 1, _, by simp, by omega, hst.out, hR.out.set_ i _, hB.out.setCell (Nat.le_refl _) _⟩, by simp only [intOf]; omega⟩
        · have hst := hI.out.step LL.out (show r ≤ 32 by omega) hix (by rw [← EX.out]; exact HN.out) ha (Z.getD_out (by rw [← EX.out]; omega))
          rw [Int.mul_zero, Int.add_zero] at hst
          have hst := Lib.hid hst
          have e1 : ¬ (s : Int) + i + 1 < x := by omega
          clear ha
          go_wp2
          exact ⟨⟨i + 1, _, by simp, by omega, hst.out, hR.out.set_ i _, hB.out.setCell (Nat.le_refl _) _⟩, by simp only [intOf]; omega⟩
      · obtain rfl : N = i := by omega
        have hpl := hI.out.len
        have hS := hR.out.sl N (by omega)
        have T := trim_c (some ⟨w.heap.size, 0, none⟩) N N P wr (by rw [hpl] at hS; exact hS) (by omega)
        have T := Lib.hid T
        have HS2 := Lib.hid hS
        have HV := Lib.hid (HD.out _ hI.out)
        clear hpl hS
        go_wp2_with (first | (go_at_call 93; (with_reducible refine (T.out).mono ?_); rintro e w5 ⟨m5, rfl, hm5, hz5, hv5, rfl⟩))
        go_ret
        exact ⟨_, _, _, rfl, trimmed HS2.out hm5 hI.out.lim hz5 hv5 HV.out, hB.out⟩
end NC
end Go.Proofs.YtelblhgagpkjmaaGreatDoor

/-
  Plain mathematics: long division by limbs.
-/
namespace Go.Proofs.YtelblhgagpkjmaaGreatDoor.L
set_option linter.unusedVariables false
set_option linter.unusedSimpArgs false
open Z (Nz Tz cmpv)
/-- a quotient's limb under way: the guess g, what is left of R, which reads M, and whether it is below 0 -/
structure QI (R D : List Int) (N : Nat) (g : Int) (below : Bool) (M : List Int) : Prop where
  len : M.length = N
  lim : Lim M
  g0 : 0 ≤ g
  g1 : g < 4294967296
  val : lv M = lv R - g * lv D + (if below then 4294967296 ^ N else 0)
  up : ∀ q, 0 ≤ q → q * lv D ≤ lv R → q < 4294967296 → q ≤ g ∨ lv R < (g + 1) * lv D
theorem QI.pos {R D M : List Int} {N : Nat} {g : Int} (h : QI R D N g true M) (hR : Lim R) : 0 < g := by
  have h1 := h.val
  have h2 := lv_lt h.lim
  rw [h.len] at h2
  have h3 := lv_nonneg hR
  have g0 := h.g0
  rcases Int.lt_or_eq_of_le g0 with h4 | h4
  · exact h4
  · rw [← h4] at h1; simp at h1; omega
theorem QI.step {R D M M' : List Int} {N : Nat} {g k : Int} (h : QI R D N g true M) (hR : Lim R) (hD : Lim D) (hM : M'.length = N) (lM : Lim M') (k0 : 0 ≤ k) (k1 : k ≤ 1)
    (hv : lv M' + 4294967296 ^ N * k = lv M + lv D) : QI R D N (g - 1) (k == 0) M' := by
  have h1 := h.val
  have hp := h.pos hR
  have a1 := lv_lt lM
  rw [hM] at a1
  have a2 := lv_lt h.lim
  rw [h.len] at a2
  have a3 := lv_nonneg lM
  have hD0 := lv_nonneg hD
  simp only [if_true] at h1
  have e : (g - 1) * lv D = g * lv D - lv D := by grind
  refine ⟨hM, lM, by omega, by have := h.g1; omega, ?_, fun q q0 hq q1 => ?_⟩
  · rw [e]
    rcases (by omega : k = 0 ∨ k = 1) with rfl | rfl
    · simp at hv ⊢; omega
    · simp at hv ⊢; omega
  · right
    rw [show (g - 1 + 1) * lv D = g * lv D by grind]
    omega
theorem QI.done {R D M : List Int} {N : Nat} {g : Int} (h : QI R D N g false M) (hD : 0 < lv D) (hR : Lim R) (hlt : lv R < 4294967296 * lv D) : g = lv R / lv D ∧ lv M = lv R % lv D := by
  have h1 := h.val
  simp at h1
  have h2 := lv_nonneg h.lim
  have q0 : 0 ≤ lv R / lv D := Int.ediv_nonneg (lv_nonneg hR) (Int.le_of_lt hD)
  have q1 : lv R / lv D < 4294967296 := by rw [Int.ediv_lt_iff_lt_mul hD]; exact hlt
  have e := Int.emod_add_mul_ediv (lv R) (lv D)
  have m0 := Int.emod_nonneg (lv R) (show lv D ≠ 0 by omega)
  have m1 := Int.emod_lt_of_pos (lv R) hD
  have hle : g ≤ lv R / lv D := by rw [Int.le_ediv_iff_mul_le hD]; omega
  have hge : lv R / lv D ≤ g := by
    rcases h.up _ q0 (by rw [Int.mul_comm]; omega) q1 with h3 | h3
    · exact h3
    · have : lv R / lv D < g + 1 := by rw [Int.ediv_lt_iff_lt_mul hD]; exact h3
      omega
  have eg : g = lv R / lv D := by omega
  refine ⟨eg, ?_⟩
  rw [eg] at h1
  rw [h1, Int.mul_comm]; omega
/-- dividing under way: quotient limbs from number i on are found; the rest reads P -/
structure DvI (A D : Int) (n i : Nat) (Q P : List Int) (N : Nat) : Prop where
  lenQ : Q.length = n
  limQ : Lim Q
  lenP : P.length = N
  limP : Lim P
  zero : ∀ j, j < i → Q.getD j 0 = 0
  val : A = lv Q * D + lv P
  lt : lv P < D * 4294967296 ^ i
theorem DvI.step {A D : Int} {n i m N : Nat} {Q P W : List Int} {q : Int} (h : DvI A D n (i + 1) Q P N) (hD : 0 < D) (hDm : D ≤ 4294967296 ^ m) (hi : i < n) (hN : i + m + 1 ≤ N) (hW : W.length = m + 1) (lW : Lim W)
    (hq : q = lv ((P.drop i).take (m + 1)) / D) (hw : lv W = lv ((P.drop i).take (m + 1)) % D) (q0 : 0 ≤ q) (q1 : q < 4294967296) : DvI A D n i (Q.set i q) (P.take i ++ (W ++ P.drop (i + (m + 1)))) N := by
  have hPl := h.lenP
  have e1 := lv_cut P i (by omega)
  have e2 := lv_cut (P.drop i) (m + 1) (by simp; omega)
  have hlow := lv_lt (h.limP.take i)
  rw [List.length_take, Nat.min_eq_left (by omega)] at hlow
  have hlow0 := lv_nonneg (h.limP.take i)
  have hw0 := lv_nonneg ((h.limP.drop i).take (m + 1))
  have hh0 := lv_nonneg ((h.limP.drop i).drop (m + 1))
  have hpi := pow_pos i
  have hpm := pow_pos (m + 1)
  -- the limbs above the window are noughts
  have hlt := h.lt
  have hzero : lv ((P.drop i).drop (m + 1)) = 0 := by
    rcases Int.lt_or_eq_of_le hh0 with h1 | h1
    · exfalso
      have a1 : (4294967296 : Int) ^ (m + 1) * 1 ≤ 4294967296 ^ (m + 1) * lv ((P.drop i).drop (m + 1)) := Int.mul_le_mul_of_nonneg_left (by omega) (Int.le_of_lt hpm)
      have a2 : 4294967296 ^ i * 4294967296 ^ (m + 1) ≤ 4294967296 ^ i * lv (P.drop i) := Int.mul_le_mul_of_nonneg_left (by omega) (Int.le_of_lt hpi)
      have a3 : D * 4294967296 ^ (i + 1) ≤ 4294967296 ^ m * 4294967296 ^ (i + 1) := Int.mul_le_mul_of_nonneg_right hDm (Int.le_of_lt (pow_pos _))
      have a4 : (4294967296 : Int) ^ m * 4294967296 ^ (i + 1) = 4294967296 ^ i * 4294967296 ^ (m + 1) := by rw [Int.pow_succ, Int.pow_succ]; grind
      omega
    · exact h1.symm
  rw [hzero, Int.mul_zero, Int.add_zero] at e2
  have ediv := Int.emod_add_mul_ediv (lv ((P.drop i).take (m + 1))) D
  rw [← hq, ← hw] at ediv
  have hwlt : lv W < D := by rw [hw]; exact Int.emod_lt_of_pos _ hD
  have eP : lv (P.take i ++ (W ++ P.drop (i + (m + 1)))) = lv (P.take i) + 4294967296 ^ i * lv W := by
    rw [lv_append, lv_append, List.length_take, Nat.min_eq_left (by omega), ← List.drop_drop, hzero]; simp
  refine ⟨by simp [h.lenQ], h.limQ.set _ q0 q1, by simp [hW]; omega, (h.limP.take i).app (lW.app (h.limP.drop _)), fun j hj => ?_, ?_, ?_⟩
  · rw [getD_set (by rw [h.lenQ]; exact hi), if_neg (by omega)]; exact h.zero j (by omega)
  · rw [lv_set _ _ _ (by rw [h.lenQ]; exact hi), h.zero i (by omega), eP]
    have hv := h.val
    rw [e1, e2] at hv
    rw [hv, ← ediv]; grind
  · rw [eP]
    have a1 : 4294967296 ^ i * (lv W + 1) ≤ 4294967296 ^ i * D := Int.mul_le_mul_of_nonneg_left (by omega) (Int.le_of_lt hpi)
    grind
theorem DvI.done {A D : Int} {n N : Nat} {Q P : List Int} (h : DvI A D n 0 Q P N) (hD : 0 < D) : lv Q = A / D ∧ lv P = A % D := by
  have h1 := h.val
  have h2 := h.lt
  simp at h2
  have h3 := lv_nonneg h.limP
  have e : A / D = lv Q := by
    rw [h1, Int.add_comm, Int.mul_comm, Int.add_mul_ediv_left _ _ (by omega), Int.ediv_eq_zero_of_lt h3 h2]; omega
  refine ⟨e.symm, ?_⟩
  rw [h1, Int.add_comm, Int.mul_comm, Int.add_mul_emod_self_left, Int.emod_eq_of_lt h3 h2]
end Go.Proofs.YtelblhgagpkjmaaGreatDoor.L

