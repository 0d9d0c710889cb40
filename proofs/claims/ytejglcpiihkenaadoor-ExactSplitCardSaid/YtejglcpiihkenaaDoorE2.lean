/-
  Texts glued together for a claim: Z1 Z2 Z3 Z4 Z5 Z6 Z7 Z8 Z9 Z10 ZDivP.
-/
import Derived.Test.YtejglcpiihkenaaDoorE1
import Derived.Test.YtejglcpiihkenaaDoorProg
import Derived.WalkLawsBesides
import Derived.LoopTactic
import Derived.Lib.Hide
import Derived.Outline
import Derived.RegionTactic
import Derived.BigRegion
import Derived.Deep.QuietTactic
import Derived.BigQuiet
import Derived.Deep.DeepCutAuto
import Derived.Deep.RegionWith
import Derived.Deep.RegionHeld3
import Derived.IntWalk
/-
  The reference's whole numbers: trim.
-/
namespace Go.Proofs.YtejglcpiihkenaaDoor
set_option linter.unusedVariables false
set_option linter.unusedSimpArgs false
open Go.RowKit
set_option linter.unusedVariables false
namespace ZC
open Z
/-- a sign and a slice that hold the whole number 'z': its digits by ten thousand, with no nought at the end -/
def ZL (w : World) (b : Bool) (A : Option Addr) (n c : Nat) (z : Int) : Prop :=
  b = decide (z < 0) ∧ ∃ L, n = L.length ∧ Sl .i64 w (.slice A n c) L ∧ Dig L ∧ Nz L ∧ val L = z.natAbs
/-- the value 'v' holds the whole number 'z' -/
def ZV (w : World) (v : Value) (z : Int) : Prop := ∃ b A n c, v = .agg #[.bool b, .slice A n c] ∧ ZL w b A n c z
theorem ZL.keep {w w' : World} {b A n c z} (h : ZL w b A n c z) (hk : ∀ L, Sl .i64 w (.slice A n c) L → Sl .i64 w' (.slice A n c) L) : ZL w' b A n c z := by
  obtain ⟨e, L, hn, hs, h⟩ := h
  exact ⟨e, L, hn, hk L hs, h⟩
theorem ZL.below {w w' : World} {b A n c z} (h : ZL w b A n c z) (hb : Below w.heap.size w w') : ZL w' b A n c z := h.keep fun _ hs => hs.below hb
theorem ZL.alloc {w : World} {b A n c z} (h : ZL w b A n c z) (o : Obj) : ZL (w.alloc o) b A n c z := h.keep fun _ hs => hs.alloc o
theorem ZL.drew {w : World} {b A n c z} (h : ZL w b A n c z) : ZL w.drew b A n c z := h
theorem ZL.drewN {w : World} {b A n c z} (h : ZL w b A n c z) (k : Nat) : ZL (w.drewN k) b A n c z := h
theorem ZL.setCell {w : World} {b A n c z} (h : ZL w b A n c z) {p : Addr} {u : Value} (hu : w.cell? p = some u) (hk : ∀ z, u ≠ .int .i64 z) (x : Value) : ZL (w.setCell p x) b A n c z :=
  h.keep fun _ hs => hs.setCell hu hk x
theorem ZL.v {w : World} {b A n c z} (h : ZL w b A n c z) : ZV w (.agg #[.bool b, .slice A n c]) z := ⟨b, A, n, c, rfl, h⟩
theorem ZL.nil (w : World) (A : Option Addr) (c : Nat) : ZL w false A 0 c 0 := ⟨rfl, [], rfl, Sl.nil _ _ _ _, (by intro d h; cases h), fun h => absurd rfl h, rfl⟩
theorem ZL.len {w : World} {b A n c z} {N : Nat} (h : ZL w b A n c z) (hz : z.natAbs < big N) : n ≤ N := by
  obtain ⟨e, L, hn, hs, hd, hnz, hv⟩ := h
  rw [hn]; exact len_of hd hnz hv hz
theorem ZL.of {w : World} {b : Bool} {A n c} {z : Int} {L : List Int} (hb : b = decide (z < 0)) (hn : n = L.length) (hs : Sl .i64 w (.slice A n c) L) (hd : Dig L) (hz : Nz L) (hv : val L = z.natAbs) : ZL w b A n c z := ⟨hb, L, hn, hs, hd, hz, hv⟩
/-- an empty slice, or one in a block from number B on -/
def Fr (B : Nat) (A : Option Addr) (n : Nat) : Prop := n = 0 ∨ ∃ ad, A = some ad ∧ B ≤ ad.block
theorem Fr.mono {B B' : Nat} {A : Option Addr} {n : Nat} (h : Fr B' A n) (hB : B ≤ B') : Fr B A n := h.imp id fun ⟨ad, e, h⟩ => ⟨ad, e, Nat.le_trans hB h⟩
theorem Fr.shrink {B : Nat} {A : Option Addr} {n m : Nat} (h : Fr B A n) (hm : m ≤ n) : Fr B A m := h.imp (fun h => by omega) id
/-- a whole number whose digits lie in a block from number B on -/
def ZLF (w : World) (B : Nat) (b : Bool) (A : Option Addr) (n c : Nat) (z : Int) : Prop := ZL w b A n c z ∧ Fr B A n
theorem ZLF.zl {w : World} {B b A n c z} (h : ZLF w B b A n c z) : ZL w b A n c z := h.1
theorem ZLF.fr {w : World} {B b A n c z} (h : ZLF w B b A n c z) : Fr B A n := h.2
theorem ZLF.v {w : World} {B b A n c z} (h : ZLF w B b A n c z) : ZV w (.agg #[.bool b, .slice A n c]) z := h.1.v
theorem ZLF.below {w w' : World} {B b A n c z} (h : ZLF w B b A n c z) (hb : Below w.heap.size w w') : ZL w' b A n c z := h.1.below hb
/-- a whole number in new memory -/
def RetZ (w : World) (z : Int) (e : Ending) (w' : World) : Prop := ∃ v, e = .returned v ∧ (∃ b A n c, v = .agg #[.bool b, .slice A n c] ∧ ZLF w' w.heap.size b A n c z) ∧ Below w.heap.size w w'
/-- a whole number, wherever -/
def RetZ0 (w : World) (z : Int) (e : Ending) (w' : World) : Prop := ∃ v, e = .returned v ∧ ZV w' v z ∧ Below w.heap.size w w'
/-- a whole number in the same slice as was handed in, maybe shorter -/
def RetT (w : World) (A : Option Addr) (n c : Nat) (z : Int) (e : Ending) (w' : World) : Prop := ∃ b m, e = .returned (.agg #[.bool b, .slice A m c]) ∧ m ≤ n ∧ ZL w' b A m c z ∧ Below w.heap.size w w'
theorem trim_end {w W : World} {neg nb : Bool} {A : Option Addr} {n c k : Nat} {L : List Int} (hs : Sl .i64 w (.slice A n c) L) (hb : Below w.heap.size w W) (hd : Dig L) (hn : n = L.length) (hk : k ≤ n)
    (ht : Tz L k) (hz : k = 0 ∨ L.getD (k - 1) 0 ≠ 0) (hnb : nb = (neg && decide (0 < k))) : RetT w A n c (sg neg (val L)) (.returned (.agg #[.bool nb, .slice A k c])) W := by
  subst hn
  have hnz := Nz_take hk hz
  have hv := val_take ht
  have hd' := hd.take k
  refine ⟨nb, k, rfl, hk, ⟨?_, L.take k, by rw [List.length_take, Nat.min_eq_left hk], (hs.below hb).take k hk, hd', hnz, by rw [hv, sg_abs neg _ (val_nonneg hd)]⟩, hb⟩
  rcases Nat.eq_zero_or_pos k with rfl | hk0
  · rw [← hv]; simp [hnb, val, sg]
  · have hne : L.take k ≠ [] := by
      intro h; have := congrArg List.length h; simp at this; rcases this with h | h
      · omega
      · subst h; simp at hk; omega
    have hp := val_pos hd' hnz hne
    rw [hv] at hp
    rw [sg_lt neg _ hp, hnb]; simp [hk0]
theorem drew2 (w : World) (a b : Nat) : ∃ n, (w.drewN a).drewN b = w.drewN n := ⟨a + b, by rw [World.drewN_drewN]⟩
theorem drew3 (w : World) (a b c : Nat) : ∃ n, ((w.drewN a).drewN b).drewN c = w.drewN n := ⟨a + b + c, by rw [World.drewN_drewN, World.drewN_drewN, Nat.add_assoc]⟩
def RetQ (w : World) (v : Value) (e : Ending) (w' : World) : Prop := e = .returned v ∧ ∃ n, w' = w.drewN n
theorem below_drewN {B : Nat} {a w : World} (h : Below B a w) (n : Nat) : Below B a (w.drewN n) := ⟨h.os, h.tape, h.output, h.size, h.block⟩
end ZC
end Go.Proofs.YtejglcpiihkenaaDoor

/-
  The reference's whole numbers: the other sign, without a sign, the sign, a number.
-/
namespace Go.Proofs.YtejglcpiihkenaaDoor
set_option linter.unusedVariables false
set_option linter.unusedSimpArgs false
open Go.RowKit
set_option linter.unusedVariables false
theorem bcell {W w1 : World} (hb : Below W.heap.size W w1) : (∀ b o, b < W.heap.size → w1.cell? ⟨b, o, none⟩ = W.cell? ⟨b, o, none⟩) ∧ (∀ b o, b < W.heap.size → w1.frozen? ⟨b, o, none⟩ = W.frozen? ⟨b, o, none⟩) :=
  ⟨fun b o h => hb.cell (p := ⟨b, o, none⟩) h, fun b o h => hb.frozen (p := ⟨b, o, none⟩) h⟩
namespace ZC
open Z
theorem RetZ0.cell {w w1 : World} {z : Int} {B : Nat} {A A0 : Option Addr} {n n0 c c0 : Nat} {b b0 : Bool}
    (hv : ZL w1 b A n c z) (hB : w.heap.size ≤ B)
    (h0 : w1.cell? ⟨B, 0, none⟩ = some (.bool b0)) (h1 : w1.cell? ⟨B, 1, none⟩ = some (.slice A0 n0 c0)) (hb : Below w.heap.size w w1) :
    RetZ0 w z (.returned (.agg #[.bool b, .slice A n c])) ((w1.setCell ⟨B, 0, none⟩ (.bool b)).setCell ⟨B, 1, none⟩ (.slice A n c)) :=
  ⟨_, rfl, ((hv.setCell h0 (fun z h => by cases h) _).setCell (p := ⟨B, 1, none⟩) (u := .slice A0 n0 c0) (by rw [World.cell?_setCell_other _ _ _ _ (by simp)]; exact h1) (fun z h => by cases h) _).v, (hb.setCell hB _).setCell hB _⟩
theorem RetZ.cell {w w1 : World} {z : Int} {B B0 : Nat} {A A0 : Option Addr} {n n0 c c0 : Nat} {b b0 : Bool}
    (hv : ZLF w1 B0 b A n c z) (hB0 : w.heap.size ≤ B0) (hB : w.heap.size ≤ B)
    (h0 : w1.cell? ⟨B, 0, none⟩ = some (.bool b0)) (h1 : w1.cell? ⟨B, 1, none⟩ = some (.slice A0 n0 c0)) (hb : Below w.heap.size w w1) :
    RetZ w z (.returned (.agg #[.bool b, .slice A n c])) ((w1.setCell ⟨B, 0, none⟩ (.bool b)).setCell ⟨B, 1, none⟩ (.slice A n c)) :=
  ⟨_, rfl, ⟨b, A, n, c, rfl, ((hv.1.setCell h0 (fun z h => by cases h) _).setCell (p := ⟨B, 1, none⟩) (u := .slice A0 n0 c0) (by rw [World.cell?_setCell_other _ _ _ _ (by simp)]; exact h1) (fun z h => by cases h) _), hv.2.mono hB0⟩, (hb.setCell hB _).setCell hB _⟩
end ZC
end Go.Proofs.YtejglcpiihkenaaDoor

/-
  The reference's whole numbers: a number's digits (N).
-/
namespace Go.Proofs.YtejglcpiihkenaaDoor
set_option linter.unusedVariables false
set_option linter.unusedSimpArgs false
open Go.RowKit
set_option linter.unusedVariables false
namespace ZC
open Z
end ZC
end Go.Proofs.YtejglcpiihkenaaDoor

/-
  The reference's whole numbers: both together (ZAdd), and the difference (ZSub).
-/
namespace Go.Proofs.YtejglcpiihkenaaDoor
set_option linter.unusedVariables false
set_option linter.unusedSimpArgs false
open Go.RowKit
set_option linter.unusedVariables false
namespace ZC
open Z
/-- what both boxes hold behind the exchange -/
structure AddIn (w : World) (z : Int) (x y : Bool) (A : Option Addr) (n c : Nat) (B : Option Addr) (m d : Nat) (X Y : List Int) : Prop where
  sx : Sl .i64 w (.slice A n c) X
  sy : Sl .i64 w (.slice B m d) Y
  dx : Dig X
  dy : Dig Y
  nx : n = X.length
  ny : m = Y.length
  bx : n ≤ 1000000
  bY : m ≤ 1000000
  sum : sg x (val X) + sg y (val Y) = z
  ge : x ≠ y → val Y ≤ val X
end ZC
end Go.Proofs.YtejglcpiihkenaaDoor

/-
  The reference's whole numbers: the difference.
-/
namespace Go.Proofs.YtejglcpiihkenaaDoor
set_option linter.unusedVariables false
set_option linter.unusedSimpArgs false
open Go.RowKit
set_option linter.unusedVariables false
theorem below1 (w : World) (o1 : Obj) : Below w.heap.size w (w.alloc o1) := (Below.refl _ _).alloc (Nat.le_refl _) _
theorem below2 (w : World) (o1 o2 : Obj) : Below w.heap.size w ((w.alloc o1).alloc o2) := (below1 w o1).alloc (by simp) _
theorem below3 (w : World) (o1 o2 o3 : Obj) : Below w.heap.size w (((w.alloc o1).alloc o2).alloc o3) := (below2 w o1 o2).alloc (by simp; omega) _
theorem Blk.after {W w w' : World} {B g : Nat} {t : TypeId} {cs : Array Value} (hb : Below B W w') (h : Blk w g t cs) (e : W.heap = w.heap) (hg : g < B) : Blk w' g t cs := (hb.block g hg).trans ((congrArg (fun x => x[g]?) e).trans h)
namespace ZC
open Z
end ZC
end Go.Proofs.YtejglcpiihkenaaDoor

/-
  The reference's whole numbers: one times the other.
-/
namespace Go.Proofs.YtejglcpiihkenaaDoor
set_option linter.unusedVariables false
set_option linter.unusedSimpArgs false
open Go.RowKit
set_option linter.unusedVariables false
namespace ZC
open Z
end ZC
end Go.Proofs.YtejglcpiihkenaaDoor

/-
  The reference's whole numbers: powers of two.
-/
namespace Go.Proofs.YtejglcpiihkenaaDoor
set_option linter.unusedVariables false
set_option linter.unusedSimpArgs false
open Go.RowKit
set_option linter.unusedVariables false
namespace ZC
open Z
theorem pow2_bigN (n N : Nat) (h : n ≤ N) (hN : N ≠ 0) : ((2 : Int) ^ n).natAbs < big N := by
  have h1 : ((2 : Int) ^ n).natAbs = 2 ^ n := by rw [Int.natAbs_pow]; rfl
  rw [h1]; unfold big
  exact Nat.lt_of_le_of_lt (Nat.pow_le_pow_right (by decide) h) (Nat.pow_lt_pow_left (by decide) hN)
theorem pow2_big (n : Nat) (h : n ≤ 1000000) : ((2 : Int) ^ n).natAbs < big 1000000 := pow2_bigN n _ h (by decide)
theorem pow2_60 {n : Int} (h : n < 60) : (2 : Int) ^ n.toNat ≤ 576460752303423488 := by
  have : (2 : Nat) ^ n.toNat ≤ 2 ^ 59 := Nat.pow_le_pow_right (by omega) (by omega)
  have h2 : ((2 ^ n.toNat : Nat) : Int) ≤ ((2 ^ 59 : Nat) : Int) := Int.ofNat_le.2 this
  simpa using h2
end ZC
end Go.Proofs.YtejglcpiihkenaaDoor

/-
  The reference's whole number of limbs (ZLimbs).
-/
namespace Go.Proofs.YtejglcpiihkenaaDoor
set_option linter.unusedVariables false
set_option linter.unusedSimpArgs false
open Go.RowKit
set_option linter.unusedVariables false
theorem Sl.drop {k : IntKind} {w : World} {L : List Int} {ad : Addr} {n c : Nat} (h : Sl k w (.slice (some ad) n c) L) (m : Nat) (hm : m ≤ L.length) : Sl k w (.slice (some (ad.add m)) (n - m) (c - m)) (L.drop m) := by
  obtain ⟨A', c', e, hc, h⟩ := h
  injection e with e1 e2 e3
  subst e1 e3
  subst e2
  refine ⟨some (ad.add m), c - m, by rw [List.length_drop], by rw [List.length_drop]; omega, ?_⟩
  rcases h with rfl | ⟨ad', e', hb, hr⟩
  · left; simp
  · injection e' with e'
    subst e'
    right
    refine ⟨_, rfl, by rw [block_of_add]; exact hb, fun j hj => ?_⟩
    rw [List.length_drop] at hj
    rw [add_of_add, hr (m + j) (by omega), List.getElem_drop]
namespace ZC
open Z
end ZC
end Go.Proofs.YtejglcpiihkenaaDoor

/-
  The reference: is a list of limbs just a number, in its form?
-/
namespace Go.Proofs.YtejglcpiihkenaaDoor
set_option linter.unusedVariables false
set_option linter.unusedSimpArgs false
open Go.RowKit
set_option linter.unusedVariables false
theorem Sl.last {k : IntKind} {w : World} {s : Value} {l : List Int} (h : Sl k w s l) (hne : l ≠ []) : ∃ ad c, s = .slice (some ad) l.length c ∧ l.length ≤ c ∧ ad.block < w.heap.size ∧ w.cell? (ad.add (l.length - 1)) = some (.int k (l.getLast hne)) := by
  have h0 : 0 < l.length := List.length_pos_iff.2 hne
  obtain ⟨ad, c, e, hc, hb, hcell⟩ := h.at_ (l.length - 1) (by omega)
  refine ⟨ad, c, e, hc, hb, ?_⟩
  rw [hcell, List.getLast_eq_getElem, List.getD_eq_getElem?_getD, List.getElem?_eq_getElem (by omega)]; rfl
namespace ZC
open Z
/-- a list of limbs is just the number, in its form -/
def Is (l : List Int) (z : Int) : Prop := Nz l ∧ L.lv l = z
end ZC
end Go.Proofs.YtejglcpiihkenaaDoor

/-
  The reference: are limbs right? (LimbsRight, over a list of lists of limbs.)
-/
namespace Go.Proofs.YtejglcpiihkenaaDoor
set_option linter.unusedVariables false
set_option linter.unusedSimpArgs false
open Go.RowKit
set_option linter.unusedVariables false
namespace ZC
open Z
/-- what is told of one list of limbs: 2 too long, 3 a nought at its end, 0 right -/
def right (l : List Int) : Int := if 400 < l.length then 2 else if l.getLast? = some 0 then 3 else 0
def rights : List (List Int) → Int
  | [] => 0
  | l :: r => if right l = 0 then rights r else right l
/-- a slice of slices of limbs -/
def SS (w : World) (v : Value) (LL : List (List Int)) : Prop :=
  ∃ A c, v = .slice A LL.length c ∧ LL.length ≤ c ∧ ∀ j (h : j < LL.length), ∃ ad s, A = some ad ∧ w.cell? (ad.add j) = some s ∧ Sl .u32 w s LL[j]
theorem rights_drop {LL : List (List Int)} {k : Nat} (hk : k < LL.length) : rights (LL.drop k) = if right LL[k] = 0 then rights (LL.drop (k + 1)) else right LL[k] := by
  rw [List.drop_eq_getElem_cons hk]; rfl
end ZC
end Go.Proofs.YtejglcpiihkenaaDoor

/-
  Plain mathematics of the long division by digits.
-/
namespace Go.Proofs.YtejglcpiihkenaaDoor.Z
set_option linter.unusedVariables false
set_option linter.unusedSimpArgs false
structure DivI (X : List Int) (B : Int) (n k : Nat) (Q : List Int) (R : Int) : Prop where
  len : Q.length = n
  dig : Dig Q
  sum : val (Q.drop k) * B + R = val (X.drop k)
  r0 : 0 ≤ R
  r1 : R < B
theorem Dig.rep (n : Nat) : Dig (List.replicate n 0) := by intro d hd; rw [(List.mem_replicate.1 hd).2]; omega
theorem DivI.start (X : List Int) (B : Int) (hB : 0 < B) : DivI X B X.length X.length (List.replicate X.length 0) 0 := by
  refine ⟨by simp, Dig.rep _, ?_, by omega, hB⟩
  rw [List.drop_of_length_le (by simp), List.drop_of_length_le (by simp)]; simp [val]
theorem val_drop {L : List Int} {k : Nat} (h : k < L.length) : val (L.drop k) = L.getD k 0 + 10000 * val (L.drop (k + 1)) := by
  rw [List.drop_eq_getElem_cons h, List.getD_eq_getElem?_getD, List.getElem?_eq_getElem h]; rfl
theorem DivI.digit {X : List Int} {B : Int} {n k : Nat} {Q : List Int} {R m : Int} (h : DivI X B n (k + 1) Q R) (hX : Dig X) (hm : m * B ≤ X.getD k 0 + 10000 * R) (h0 : 0 ≤ m) : m < 10000 := by
  have h1 := getD_dig hX k
  have h2 := h.r1
  by_cases h3 : m < 10000
  · exact h3
  · have h3 : 10000 ≤ m := by omega
    have h4 := Int.mul_le_mul_of_nonneg_right h3 (show 0 ≤ B by have := h.r0; omega)
    omega
theorem DivI.step {X : List Int} {B : Int} {n k : Nat} {Q : List Int} {R m : Int} (h : DivI X B n (k + 1) Q R) (hX : Dig X) (hn : n = X.length) (hk : k < n) (h0 : 0 ≤ m) (hm : m * B ≤ X.getD k 0 + 10000 * R) (hm1 : X.getD k 0 + 10000 * R < (m + 1) * B) :
    DivI X B n k (Q.set k m) (X.getD k 0 + 10000 * R - m * B) := by
  have hd := h.digit hX hm h0
  refine ⟨by simp [h.len], ?_, ?_, by omega, by grind⟩
  · intro d hd'
    rcases List.mem_or_eq_of_mem_set hd' with h1 | h1
    · exact h.dig d h1
    · subst h1; omega
  · rw [val_drop (L := X) (by omega), val_drop (L := Q.set k m) (by rw [List.length_set, h.len]; exact hk), getD_set (by rw [h.len]; exact hk), if_pos rfl, List.drop_set_of_lt (by omega)]
    have := h.sum
    grind
theorem DivI.done {X : List Int} {B : Int} {n : Nat} {Q : List Int} {R : Int} (h : DivI X B n 0 Q R) : val Q * B + R = val X := by simpa using h.sum
/-- the quotient and the remainder by Euclid, from those without signs -/
theorem euclid {a b q r : Int} (hb : b ≠ 0) (h : q * (b.natAbs : Int) + r = (a.natAbs : Int)) (h0 : 0 ≤ r) (h1 : r < (b.natAbs : Int)) :
    a / b = (if (decide (a < 0)) = (decide (b < 0)) then (if a < 0 ∧ 0 < r then q + 1 else q) else - (if a < 0 ∧ 0 < r then q + 1 else q)) ∧
    a % b = (if a < 0 ∧ 0 < r then (b.natAbs : Int) - r else r) := by
  rcases Int.lt_or_lt_of_ne hb with hb | hb
  · rw [Int.ediv_emod_unique' hb]
    rw [show ((b.natAbs : Nat) : Int) = -b by omega] at *
    by_cases ha : a < 0 <;> by_cases hr : 0 < r <;> simp only [ha, hb, hr, decide_true, decide_false, and_true, and_false, false_and, if_true, if_false, reduceCtorEq] <;> (refine ⟨?_, ?_, ?_⟩) <;> (try rw [show ((a.natAbs : Nat) : Int) = -a by omega] at h) <;> (try rw [show ((a.natAbs : Nat) : Int) = a by omega] at h) <;> grind
  · rw [Int.ediv_emod_unique hb]
    rw [show ((b.natAbs : Nat) : Int) = b by omega] at *
    have hb' : ¬ b < 0 := by omega
    by_cases ha : a < 0 <;> by_cases hr : 0 < r <;> simp only [ha, hb', hr, decide_true, decide_false, and_true, and_false, true_and, false_and, if_true, if_false, reduceCtorEq] <;> (refine ⟨?_, ?_, ?_⟩) <;> (try rw [show ((a.natAbs : Nat) : Int) = -a by omega] at h) <;> (try rw [show ((a.natAbs : Nat) : Int) = a by omega] at h) <;> grind
theorem euclid' {a b q r Bv : Int} (hb : b ≠ 0) (e : Bv = (b.natAbs : Int)) (h : q * Bv + r = (a.natAbs : Int)) (h0 : 0 ≤ r) (h1 : r < Bv) :
    a / b = (if (decide (a < 0)) = (decide (b < 0)) then (if a < 0 ∧ 0 < r then q + 1 else q) else - (if a < 0 ∧ 0 < r then q + 1 else q)) ∧
    a % b = (if a < 0 ∧ 0 < r then Bv - r else r) := by
  subst e
  exact euclid hb h h0 h1
section
variable {a b q r Bv : Int} (hb : b ≠ 0) (e : Bv = (b.natAbs : Int)) (h : q * Bv + r = (a.natAbs : Int)) (h0 : 0 ≤ r) (h1 : r < Bv)
include hb e h h0 h1
theorem eu_ff (hx : false = decide (a < 0)) (hy : false = decide (b < 0)) : a / b = q ∧ a % b = r := by
  have E := euclid' hb e h h0 h1
  have hx' := hx.symm
  simp only [decide_eq_true_eq, decide_eq_false_iff_not] at hx'
  rw [← hx, ← hy] at E
  rw [E.1, E.2]
  simp [hx']
theorem eu_ft (hx : false = decide (a < 0)) (hy : true = decide (b < 0)) : a / b = -q ∧ a % b = r := by
  have E := euclid' hb e h h0 h1
  have hx' := hx.symm
  simp only [decide_eq_true_eq, decide_eq_false_iff_not] at hx'
  rw [← hx, ← hy] at E
  rw [E.1, E.2]
  simp [hx']
theorem eu_tf1 (hx : true = decide (a < 0)) (hy : false = decide (b < 0)) (hp : 0 < r) : a / b = -(q + 1) ∧ a % b = Bv - r := by
  have E := euclid' hb e h h0 h1
  have hx' := hx.symm
  simp only [decide_eq_true_eq, decide_eq_false_iff_not] at hx'
  rw [← hx, ← hy] at E
  rw [E.1, E.2]
  simp [hp, hx']
theorem eu_tf0 (hx : true = decide (a < 0)) (hy : false = decide (b < 0)) (hp : ¬ 0 < r) : a / b = -q ∧ a % b = r := by
  have E := euclid' hb e h h0 h1
  have hx' := hx.symm
  simp only [decide_eq_true_eq, decide_eq_false_iff_not] at hx'
  rw [← hx, ← hy] at E
  rw [E.1, E.2]
  simp [hp, hx']
theorem eu_tt1 (hx : true = decide (a < 0)) (hy : true = decide (b < 0)) (hp : 0 < r) : a / b = q + 1 ∧ a % b = Bv - r := by
  have E := euclid' hb e h h0 h1
  have hx' := hx.symm
  simp only [decide_eq_true_eq, decide_eq_false_iff_not] at hx'
  rw [← hx, ← hy] at E
  rw [E.1, E.2]
  simp [hp, hx']
theorem eu_tt0 (hx : true = decide (a < 0)) (hy : true = decide (b < 0)) (hp : ¬ 0 < r) : a / b = q ∧ a % b = r := by
  have E := euclid' hb e h h0 h1
  have hx' := hx.symm
  simp only [decide_eq_true_eq, decide_eq_false_iff_not] at hx'
  rw [← hx, ← hy] at E
  rw [E.1, E.2]
  simp [hp, hx']
end
end Go.Proofs.YtejglcpiihkenaaDoor.Z

