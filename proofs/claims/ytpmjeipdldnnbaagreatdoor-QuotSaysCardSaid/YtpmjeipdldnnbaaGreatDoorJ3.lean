/-
  Package quot: checkMode, byClass, finish, Div, Sqrt.
-/
import Derived.Test.YtpmjeipdldnnbaaGreatDoorJ2
import Derived.Test.YtpmjeipdldnnbaaGreatDoorP5
namespace Go.Proofs.YtpmjeipdldnnbaaGreatDoor
set_option linter.unusedVariables false
set_option linter.unusedSimpArgs false
open Go.RowKit
set_option linter.unusedVariables false
set_option linter.unusedSimpArgs false
namespace JC
open L NC NK DC RC SC PC
theorem i64_and1 (n : Int) : bits .and .i64 n 1 = n % 2 := by
  have h1 : (BitVec.ofInt 64 1).toNat = 2 ^ 1 - 1 := by decide
  have key : (BitVec.ofInt 64 n &&& BitVec.ofInt 64 1).toNat = (n % ((2 ^ 64 : Nat) : Int)).toNat % 2 ^ 1 := by
    rw [BitVec.toNat_and, BitVec.toNat_ofInt, h1, Nat.and_two_pow_sub_one_eq_mod]
  show IntKind.i64.wrap ((BitVec.ofInt 64 n &&& BitVec.ofInt 64 1).toNat : Nat) = n % 2
  rw [key, IntKind.wrap_i64]
  omega
theorem checkModeQ_c (mode : Int) (w : World) (hT : TabD w) : Calls Tryz.prog 11 #[.int .i64 mode] w (DC.RetB w (.int .i64 (if 0 ≤ mode ∧ mode ≤ 4 then 0 else 1))) := by
  have TO := Lib.hid (To_d (.agg #[.bool false, .slice none 0 0, .int .i64 0]) dz mode w (GV.zero w).dv hT)
  have e : TE dz mode = if 0 ≤ mode ∧ mode ≤ 4 then 0 else 1 := by unfold TE; rw [if_neg (by simp [dz])]
  rw [e] at TO
  clear e hT
  generalize (if 0 ≤ mode ∧ mode ≤ 4 then 0 else 1 : Int) = E at *
  generalize TX dz mode = x at *
  generalize TL dz mode = l at *
  go_enter Tryz.func11, Tryz.ntmps11
  go_wp2_with (go_at_call 37; (with_reducible refine (TO.out).mono ?_); rintro e w1 ⟨rfl, hb⟩)
  go_ret
  exact ⟨rfl, hb⟩
set_option maxRecDepth 100000 in
set_option maxHeartbeats 8000000 in
theorem byClassQ_c (x y : Int) (w : World) (hx : 0 ≤ x ∧ x ≤ 18446744073709551615) (hy : 0 ≤ y ∧ y ≤ 18446744073709551615) :
    Calls Tryz.prog 12 #[.int .u64 x, .int .u64 y] w fun e w' => e = .returned (.tuple #[.int .u64 (qc x y).1, .bool (qc x y).2]) ∧ w = w' := by
  have hs := Lib.hid (sp_bits hx hy)
  have CX : Hid (∀ W : World, Calls Tryz.prog 17 #[.int .u64 x] W fun e w' => e = .returned (.int .i64 (F.cls x)) ∧ W = w') := fun W => FloatC.Class_c x hx.1 hx.2 W
  have CY : Hid (∀ W : World, Calls Tryz.prog 17 #[.int .u64 y] W fun e w' => e = .returned (.int .i64 (F.cls y)) ∧ W = w') := fun W => FloatC.Class_c y hy.1 hy.2 W
  have a := F.cls_bd x
  have b := F.cls_bd y
  have s2 := sp2 x y
  unfold qc
  generalize sp x y = s at *
  obtain ⟨cx, hcx⟩ : ∃ c, F.cls x = c := ⟨_, rfl⟩
  obtain ⟨cy, hcy⟩ : ∃ c, F.cls y = c := ⟨_, rfl⟩
  rw [hcx] at a CX ⊢
  rw [hcy] at b CY ⊢
  have kx : cx = 1 ∨ cx = 2 ∨ cx = 3 ∨ cx = 4 ∨ cx = 5 := by omega
  have ky : cy = 1 ∨ cy = 2 ∨ cy = 3 ∨ cy = 4 ∨ cy = 5 := by omega
  clear hcx hcy a b hx hy
  obtain ⟨r, hr⟩ : ∃ r : Int × Bool, r = (if cx = 5 ∨ cy = 5 then (9221120237041090560, true) else if cx = cy ∧ (cx = 4 ∨ cx = 1) then (9221120237041090560, true) else if cx = 4 ∨ cy = 1 then (s + 9218868437227405312, true) else if cx = 1 ∨ cy = 4 then (s, true) else (0, false)) := ⟨_, rfl⟩
  rw [← hr]
  have HR := Lib.hid hr
  clear hr
  obtain ⟨r1, r2⟩ := r
  rcases kx with rfl | rfl | rfl | rfl | rfl <;> rcases ky with rfl | rfl | rfl | rfl | rfl
  all_goals (
    have h2 := HR.out
    clear HR
    first
      | (rw [if_pos (by decide)] at h2)
      | (rw [if_neg (by decide), if_pos (by decide)] at h2)
      | (rw [if_neg (by decide), if_neg (by decide), if_pos (by decide)] at h2)
      | (rw [if_neg (by decide), if_neg (by decide), if_neg (by decide), if_pos (by decide)] at h2)
      | (rw [if_neg (by decide), if_neg (by decide), if_neg (by decide), if_neg (by decide)] at h2)
    obtain ⟨rfl, rfl⟩ := Prod.mk.inj h2
    clear h2
    go_enter Tryz.func12, Tryz.ntmps12
    go_wp2_with (first
      | (go_at_call 17; (with_reducible refine (CX.out _).mono ?_); rintro e w1 ⟨rfl, rfl⟩)
      | (go_at_call 17; (with_reducible refine (CY.out _).mono ?_); rintro e w2 ⟨rfl, rfl⟩))
    go_ret2
    first
      | exact ⟨rfl, rfl⟩
      | (rw [hs.out]; exact ⟨rfl, rfl⟩)
      | (rw [hs.out]; rcases s2 with rfl | rfl <;> exact ⟨rfl, rfl⟩))
set_option maxRecDepth 100000 in
set_option maxHeartbeats 4000000 in
theorem finishQ_c (b left : Bool) (A : Option Addr) (n c : Nat) (z x mode r : Int) (hf m : Bool) (w : World) {B : Nat} (hB : B = 400) (hm : 0 ≤ mode ∧ mode ≤ 4) (h0 : 0 < z) (hz : z < 2 ^ B) (hx : -9000 ≤ x ∧ x ≤ 9000) (t : Tow (sc z x) r hf m) (hv : PV w (.slice A n c) 0 z) (hT : TabD w) :
    Calls Tryz.prog 16 #[.bool b, .slice A n c, .int .i64 x, .bool left, .int .i64 mode] w (DC.RetB w (.tuple #[.int .u64 (rx b (ry b r hf (m || left) mode)), .bool (hf || (m || left)), .int .i64 0])) := by
  have fp := finish_p (b := b) (left := left) hB hm h0 hz hx t
  have M1 : Hid (Calls Tryz.prog 50 #[.bool b, .slice A n c, .int .i64 x] w (RetD w (fin (sgm b z) x))) := by
    have := Make_d b A n c 0 z x w hv hT
    unfold Mk at this
    rwa [if_neg (by decide), if_neg (by omega)] at this
  have PT : Hid (∀ (W : World) (u v : Value), DV W u (fin (sgm b z) x).d → DV W v (ones b left) → Below w.heap.size w W → Calls Tryz.prog 51 #[u, v, .int .i64 mode] W (DC.RetB W (.tuple #[.int .u64 (rx b (ry b r hf (m || left) mode)), .bool (hf || (m || left)), .int .i64 0]))) := fun W u v h1 h2 hW => by
    have := Part_d u v _ _ mode W h1 h2 (hT.below hW)
    rwa [fp.1, fp.2.1, fp.2.2] at this
  have OF : Hid (∀ W, Calls Tryz.prog 41 #[.int .u64 1] W (RetV W 1)) := fun W => Of_c 1 W (by omega)
  have M2 : Hid (∀ (W : World) (A : Option Addr) (n c : Nat), NV W (.slice A n c) 1 → Below w.heap.size w W → Calls Tryz.prog 50 #[.bool b, .slice A n c, .int .i64 0] W (RetD W ⟨0, ⟨0, sgm b 1, 0⟩⟩)) := fun W A n c hv hW => by
    have l1 : (1 : Int) < 4294967296 ^ 400 := (lt_390 hB (by have := two_lt' (a := 0) (b := B) (by omega); simpa using this)).2
    have hp := hv.pv (big3_bds l1 l1 (by omega) (by omega)).2.2.1
    have e1 : erz 1 = 0 := by unfold erz; rw [if_pos l1]
    rw [e1] at hp
    have := Make_d b A n c 0 1 0 W hp (hT.below hW)
    unfold Mk at this
    rw [if_neg (by decide), if_neg (by omega)] at this
    have e2 : fin (sgm b 1) 0 = ⟨0, ⟨0, sgm b 1, 0⟩⟩ := by
      have := fin_sg (b := b) (z := 1) (o := 1) (x := 0) (k := 0) (by decide) (by decide)
      rw [this, if_pos]
      · rfl
      · have := l1
        unfold inb
        generalize (4294967296 : Int) ^ 400 = c400 at *
        unfold sgm
        split <;> omega
    rwa [e2] at this
  clear fp t hv hT h0 hz hx
  generalize rx b (ry b r hf (m || left) mode) = X at *
  generalize (hf || (m || left)) = Lo at *
  generalize fin (sgm b z) x = rr at *
  obtain ⟨re, d⟩ := rr
  unfold ones at PT
  cases left
  · rw [if_neg (by decide)] at PT
    clear M2 OF
    go_enter Tryz.func16, Tryz.ntmps16
    go_wp2_with (first
      | (go_at_call 50; (with_reducible refine (M1.out).mono ?_); rintro e w3 ⟨b3, A3, n3, c3, x3, rfl, hv, hb⟩; have s := hb.alloc hb.size (.cells #[.bool b3, .slice A3 n3 c3, .int .i64 x3] 37); have X1 := BD.new hv.dv; have D := Lib.hid s; clear hv hb s; have s2 := al1 (w3.alloc (.cells #[.bool b3, .slice A3 n3 c3, .int .i64 x3] 37)) (.cells #[.bool false, .slice none 0 0, .int .i64 0] 37); have X2 := BD.new (GV.zero (w3.alloc (.cells #[.bool b3, .slice A3 n3 c3, .int .i64 x3] 37))).dv; have X1 := X1.below s2; have D := Lib.hid (D.out.trans (s2.mono D.out.size)); obtain ⟨a_0, a_1, a_2⟩ := X1.bx; obtain ⟨b_0, b_1, b_2⟩ := X2.bx)
      | (go_at_call 51; (with_reducible refine (PT.out _ _ _ X1.dv X2.dv D.out).mono ?_); rintro e w5 ⟨rfl, hb⟩; have D := Lib.hid (D.out.trans (hb.mono D.out.size)); clear hb))
    go_ret3
    exact ⟨rfl, D.out⟩
  · rw [if_pos rfl] at PT
    go_enter Tryz.func16, Tryz.ntmps16
    go_wp2_with (first
      | (go_at_call 50; (with_reducible refine (M1.out).mono ?_); rintro e w3 ⟨b3, A3, n3, c3, x3, rfl, hv, hb⟩; obtain ⟨N1, N2, NS, D0⟩ := new2 w3 37 37 #[.bool b3, .slice A3 n3 c3, .int .i64 x3] #[.bool false, .slice none 0 0, .int .i64 0] 0; rw [World.drewN_zero] at N1 N2 NS D0; have D := Lib.hid (hb.trans (D0.mono hb.size)); have G1 := hv.below D0; have SZ := Lib.hid hb.size; clear hv hb D0 NS)
      | (go_at_call 41; (with_reducible refine (OF.out _).mono ?_); rintro e w4 ⟨A4, n4, c4, rfl, ho, hb⟩; have N1 := N1.below hb N1.lt; have N2 := N2.below hb N2.lt; have G1 := G1.below hb; have D := Lib.hid (D.out.trans (hb.mono D.out.size)); clear hb)
      | (go_at_call 50; (with_reducible refine (M2.out _ _ _ _ ho D.out).mono ?_); rintro e w5 ⟨b5, A5, n5, c5, x5, rfl, hv5, hb⟩; have N1 := N1.below hb N1.lt; have N2 := N2.below hb N2.lt; have G1 := G1.below hb; have D := Lib.hid (D.out.trans (hb.mono D.out.size)); clear hb; have t0 := N2.at_ 0 rfl; have t1 := N2.at_ 1 rfl; have t2 := N2.at_ 2 rfl; have f0 := N2.frozen 0; have f1 := N2.frozen 1; have f2 := N2.frozen 2; have N3 := Blk3 N2 (.bool b5) (.slice A5 n5 c5) (.int .i64 x5); have N4 := ((N1.far (p := ⟨w3.heap.size + 1, 0, none⟩) (by simp) (.bool b5)).far (p := ⟨w3.heap.size + 1, 1, none⟩) (by simp) (.slice A5 n5 c5)).far (p := ⟨w3.heap.size + 1, 2, none⟩) (by simp) (.int .i64 x5); have G3 := G1.set3 N2 (.bool b5) (.slice A5 n5 c5) (.int .i64 x5) (by intro z h; cases h) (by intro z h; cases h); have G4 := hv5.set3 N2 (.bool b5) (.slice A5 n5 c5) (.int .i64 x5) (by intro z h; cases h) (by intro z h; cases h); have D3 := Lib.hid (below3 D.out (B := w3.heap.size + 1) (by have := SZ.out; omega) (.bool b5) (.slice A5 n5 c5) (.int .i64 x5)); have a0 := N4.at_ 0 rfl; have a1 := N4.at_ 1 rfl; have a2 := N4.at_ 2 rfl; have b0 := N3.at_ 0 rfl; have b1 := N3.at_ 1 rfl; have b2 := N3.at_ 2 rfl)
      | (go_at_call 51; (with_reducible refine (PT.out _ _ _ G3.dv G4.dv D3.out).mono ?_); rintro e w6 ⟨rfl, hb⟩; have D := Lib.hid (D3.out.trans (hb.mono D3.out.size)); clear hb))
    go_ret3
    exact ⟨rfl, D.out⟩
end JC
end Go.Proofs.YtpmjeipdldnnbaaGreatDoor
