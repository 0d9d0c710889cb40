/-
  The reference's whole numbers: the difference.
-/
import Derived.Test.YtjihapnplfdmmaaZ4
import Derived.Deep.RegionWith
namespace Go.Proofs.Ytjihapnplfdmmaa
open Go.RowKit
set_option linter.unusedVariables false
theorem below1 (w : World) (o1 : Obj) : Below w.heap.size w (w.alloc o1) := (Below.refl _ _).alloc (Nat.le_refl _) _
theorem below2 (w : World) (o1 o2 : Obj) : Below w.heap.size w ((w.alloc o1).alloc o2) := (below1 w o1).alloc (by simp) _
theorem below3 (w : World) (o1 o2 o3 : Obj) : Below w.heap.size w (((w.alloc o1).alloc o2).alloc o3) := (below2 w o1 o2).alloc (by simp; omega) _
theorem Blk.after {W w w' : World} {B g : Nat} {t : TypeId} {cs : Array Value} (hb : Below B W w') (h : Blk w g t cs) (e : W.heap = w.heap) (hg : g < B) : Blk w' g t cs := (hb.block g hg).trans ((congrArg (fun x => x[g]?) e).trans h)
namespace ZC
open Z
set_option maxHeartbeats 8000000 in
theorem ZSub_c (va vb : Value) (a b : Int) (w : World) (ha : ZV w va a) (hb : ZV w vb b) (bA : a.natAbs < big 1000000) (bB : b.natAbs < big 1000000) :
    Calls Try.prog 18 #[va, vb] w (RetZ w (a - b)) := by
  obtain ⟨x, A, n, c, rfl, ha⟩ := ha
  obtain ⟨y, B, m, d, rfl, hb⟩ := hb
  have NEG := Lib.hid (fun W (h : Below w.heap.size w W) => ZNeg_c _ b W (hb.below h).v bB)
  have ADD : Hid (∀ W v, Below w.heap.size w W → ZV W v (-b) → Calls Try.prog 14 #[.agg #[.bool x, .slice A n c], v] W (RetZ W (a - b))) := Lib.hid (fun W v h h2 => by rw [Int.sub_eq_add_neg]; exact ZAdd_c _ v a (-b) W (ha.below h).v h2 bA (by rw [Int.natAbs_neg]; exact bB))
  clear ha hb bA bB
  obtain ⟨N0, N1, N2, N3, N4⟩ := new3 w 34 34 34 #[.bool x, .slice A n c] #[.bool y, .slice B m d] #[.bool false, .slice none 0 0] 0
  have N0 := Lib.hid N0
  have N2 := Lib.hid N2
  have N3 := Lib.hid N3
  clear N1 N4
  go_enter Try.func18, Try.ntmps18
  go_wp2
  go_region_with (first
    | (go_at_call 31; (with_reducible refine (NEG.out _ (below3 w _ _ _).drew).mono ?_); rintro e w1 ⟨_, rfl, ⟨b1, A1, n1, c1, rfl, hv1⟩, hb1⟩; have M0 := Blk.after hb1 N0.out rfl (by simp; omega); have M2 := Blk.after hb1 N2.out rfl (by simp); have BW1 := (below3 w _ _ _).drew.trans (hb1.mono (below3 w _ _ _).drew.size); clear hb1; have p00 := M0.at_ 0 rfl; have p01 := M0.at_ 1 rfl; have p20 := M2.at_ 0 rfl; have p21 := M2.at_ 1 rfl; have f20 := M2.frozen 0; have f21 := M2.frozen 1)
    | (go_at_call 14; (with_reducible refine (ADD.out _ _ BW1 hv1.v).mono ?_); rintro e w2 ⟨_, rfl, ⟨b2, A2, n2, c2, rfl, hv2⟩, hb2⟩; have M02 := M0.below hb2 M0.lt; have M22 := M2.below hb2 M2.lt; have BW2 := BW1.trans (hb2.mono BW1.size); clear hb2; have p00 := M02.at_ 0 rfl; have p01 := M02.at_ 1 rfl; have p20 := M22.at_ 0 rfl; have p21 := M22.at_ 1 rfl; have f20 := M22.frozen 0; have f21 := M22.frozen 1))
  all_goals
    have t0 := M22.at_ 0 rfl
    have t1 := M22.at_ 1 rfl
    have R := Lib.hid (RetZ.cell hv2 BW1.size (show w.heap.size ≤ w.heap.size + 2 by omega) t0 t1 BW2)
    clear hv2 hv1 BW2 BW1 M0 M2 M02 M22
    go_wp2
    exact bodyPost_ret (v := .agg #[.bool b2, .slice A2 n2 c2]) (by simp [results, Try.results18, go_sem, t0, t1]) rfl R.out
end ZC
end Go.Proofs.Ytjihapnplfdmmaa
