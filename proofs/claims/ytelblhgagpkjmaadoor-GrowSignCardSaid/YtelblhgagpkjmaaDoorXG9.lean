/-
  growLives: the walk.
-/
import Derived.Test.YtelblhgagpkjmaaDoorXG8
namespace Go.Proofs.YtelblhgagpkjmaaDoor
set_option linter.unusedVariables false
set_option linter.unusedSimpArgs false
open Go.RowKit
set_option linter.unusedVariables false
set_option linter.unusedSimpArgs false
namespace XC
open L NC NK DC RC SC PC QC IC
open Z (cmpv)
theorem okn (W : World) (zs : List Int) (hn : zs.length ≤ 1000) {o : Bool} (ho : zs.all (· == 0) = o) : Calls Tryd.prog 22 #[.slice (some ⟨W.heap.size, 0, none⟩) zs.length zs.length] (W.alloc (.cells (zs.map (Value.int .i64)).toArray 23)) fun e w' => e = .returned (.bool o) ∧ W.alloc (.cells (zs.map (Value.int .i64)).toArray 23) = w' := by
  rw [← ho]
  exact ok_lit W zs hn
theorem sl_new (W : World) (L : List Int) : Sl .u64 (W.alloc (.cells (L.map (Value.int .u64)).toArray 22)) (.slice (some ⟨W.heap.size, 0, none⟩) L.length L.length) L := Row.sl (Blk.new W 22 (L.map (Value.int .u64)).toArray) _ (by simp)
theorem sl_two {w : World} {A : Option Addr} {n c : Nat} {x y : Int} (h : Sl .u64 w (.slice A n c) [x, y]) : ∃ ad, A = some ad ∧ n = 2 ∧ w.cell? ad = some (.int .u64 x) ∧ w.cell? ⟨ad.block, ad.off + 1, none⟩ = some (.int .u64 y) := by
  obtain ⟨ad, c', e, _, _, h0⟩ := h.at_ 0 (by simp)
  obtain ⟨ad', c'', e', _, _, h1⟩ := h.at_ 1 (by simp)
  injection e with e1 e2 e3
  injection e' with e1' e2' e3'
  subst e1
  cases e1'
  have z : ad.add 0 = ad := by unfold Addr.add; split <;> simp_all
  have z1 : ad.add 1 = ⟨ad.block, ad.off + 1, none⟩ := by unfold Addr.add; split <;> simp_all
  rw [z] at h0
  rw [z1] at h1
  exact ⟨ad, rfl, e2, h0, h1⟩
set_option maxRecDepth 100000 in
set_option maxHeartbeats 16000000 in
theorem livesG_c (w : World) (hT : TabD w) : Calls Tryd.prog 20 #[] w fun e w' => e = .returned (.bool true) ∧ Below w.heap.size w w' := by
  have HT : Hid (∀ W : World, Below w.heap.size w W → TabD W) := fun W hW => hT.below hW
  have D := Lib.hid (Below.refl w.heap.size w)
  obtain ⟨g1, g2, g3⟩ := glive rfl rfl
  have A0 := Lib.hid (al1 w (.cells #[.int .u64 4607182418800017408] 22))
  have AD := Lib.hid (Add_g _ 1 1 [4607182418800017408] 4363988038922010624 (w.alloc (.cells #[.int .u64 4607182418800017408] 22)) (sl_new w [4607182418800017408]) (by intro z hz; simp at hz; omega) (by simp) (by omega) (HT.out _ A0.out))
  rw [g1] at AD
  have SN : Hid (∀ (W : World) (A : Option Addr) (n c : Nat), Below w.heap.size w W → Sl .u64 W (.slice A n c) [4363988038922010624, 4607182418800017408] → Calls Tryd.prog 26 #[.slice A n c] W (DC.RetB W (.tuple #[.int .i64 1, .int .i64 0]))) := fun W A n c hW hs => by
    have := Sign_g A n c _ W hs (by intro z hz; simp at hz; omega) (by simp) (HT.out W hW)
    rwa [g2] at this
  have TU : Hid (∀ W : World, Below w.heap.size w W → Calls Tryd.prog 8 #[.int .u64 0, .int .u64 0, .int .u64 4607182418800017408, .int .u64 0, .int .u64 0, .int .u64 4607182418800017408] W (DC.RetB W (.tuple #[.int .i64 1, .int .i64 0]))) := fun W hW => by
    have := Turn_g 0 0 4607182418800017408 0 0 4607182418800017408 W (by intro z hz; simp at hz; omega) (HT.out W hW)
    rwa [g3] at this
  have O3 : Hid (∀ W : World, Calls Tryd.prog 22 #[.slice (some ⟨W.heap.size, 0, none⟩) 3 3] (W.alloc (.cells #[.int .i64 0, .int .i64 0, .int .i64 0] 23)) fun e w' => e = .returned (.bool true) ∧ W.alloc (.cells #[.int .i64 0, .int .i64 0, .int .i64 0] 23) = w') := fun W => okn W [0, 0, 0] (by simp) rfl
  clear g1 g2 g3 hT
  go_enter Tryd.func20, Tryd.ntmps20
  go_wp2_with (first
    | (go_at_call 17; (with_reducible refine (AD.out).mono ?_); rintro e w1 ⟨Aa, na, ca, rfl, hn, Sa, hb⟩; have D := Lib.hid (A0.out.trans (hb.mono A0.out.size)); clear hb)
    | (go_at_call 26; (with_reducible refine (SN.out _ _ _ _ D.out Sa.out).mono ?_); rintro e w2 ⟨rfl, hb⟩; have Sa := Lib.hid (Sa.out.below hb); have D := Lib.hid (D.out.trans (hb.mono D.out.size)); clear hb)
    | (go_at_call 8; (with_reducible refine (TU.out _ D.out).mono ?_); rintro e w3 ⟨rfl, hb⟩; have Sa := Lib.hid (Sa.out.below hb); have D := Lib.hid (D.out.trans (hb.mono D.out.size)); clear hb)
    | (go_at_call 22; (with_reducible refine (O3.out w3).mono ?_); rintro e w4 ⟨rfl, hw⟩; have s := al1 w3 (.cells #[.int .i64 0, .int .i64 0, .int .i64 0] 23); rw [hw] at s; clear hw; have Sa := Lib.hid (Sa.out.below s); have D := Lib.hid (D.out.trans (s.mono D.out.size)); clear s; obtain ⟨ad, ea, en, k0, k1⟩ := sl_two Sa.out; subst ea en))
  go_ret
  exact ⟨rfl, D.out⟩
end XC
end Go.Proofs.YtelblhgagpkjmaaDoor
