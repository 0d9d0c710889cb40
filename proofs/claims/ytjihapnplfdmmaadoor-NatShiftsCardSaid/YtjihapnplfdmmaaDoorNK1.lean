/-
  NatDivides: the walk.
-/
import Derived.Test.YtjihapnplfdmmaaDoorN19
namespace Go.Proofs.YtjihapnplfdmmaaDoor
open Go.RowKit
set_option linter.unusedVariables false
namespace NK
open L NC
open Z (Nz Tz cmpv)
theorem NV.zero {w : World} {A : Option Addr} {n c : Nat} (h : NV w (.slice A n c) 0) : n = 0 := by
  obtain ⟨L, h1, h2, h3, h4⟩ := h
  have e := lv_inj h2 Lim.nil h3 (by intro h; exact absurd rfl h) (h4.trans (show (0 : Int) = lv [] from rfl))
  have := h1.len_.1
  rw [this, e]; rfl
theorem Mul_0 {u v : Value} {a b : Int} {w : World} (h1 : PV w u 0 a) (h2 : PV w v 0 b) : Calls Tryd.prog 28 #[u, v] w (RetP w 0 (a * b)) := Mul_p h1 h2
theorem Add_0 {u v : Value} {a b : Int} {w : World} (h1 : PV w u 0 a) (h2 : PV w v 0 b) : Calls Tryd.prog 24 #[u, v] w (RetP w 0 (a + b)) := Add_p h1 h2
theorem Cmp_0 {u v : Value} {a b : Int} {w : World} (h1 : PV w u 0 a) (h2 : PV w v 0 b) : Calls Tryd.prog 30 #[u, v] w (RetQ w (.tuple #[.int .i64 (cmpv a b), .int .i64 0])) := Cmp_p h1 h2
theorem Sub_0 {u v : Value} {a b : Int} {w : World} (h1 : PV w u 0 a) (h2 : PV w v 0 b) (h : b ≤ a) : Calls Tryd.prog 31 #[u, v] w (RetP w 0 (a - b)) := by
  have h3 := Sub_p h1 h2
  have e : es 0 0 a b = 0 := by unfold es; rw [if_pos (ee0.2 ⟨rfl, rfl⟩), if_neg (by omega)]
  rwa [e, if_pos rfl] at h3
theorem Equal_0 {s t : Value} {z : Int} {w : World} (hs : NV w s z) (ht : NV w t z) (b1 : z < big3) : Calls Tryd.prog 26 #[s, t] w (RetQ w (.bool true)) := by
  have h := Equal_p hs ht b1 b1
  simpa using h
theorem erz_0 {z : Int} (h : z < 4294967296 ^ 400) : erz z = 0 := by unfold erz; rw [if_pos h]
theorem lit_below (w : World) (o : Obj) : Below w.heap.size w (w.alloc o) := (Below.refl _ _).alloc (Nat.le_refl _) _
set_option maxRecDepth 100000 in
set_option maxHeartbeats 4000000 in
theorem divides_c (u v : Value) (e1 e2 a b : Int) (w : World) (hu : PV w u e1 a) (hv : PV w v e2 b) (fu : ∃ A n c, u = .slice A n c) (fv : ∃ A n c, v = .slice A n c) :
    Calls Tryd.prog 5 #[u, v] w fun e w' => e = .returned (.bool true) ∧ Below w.heap.size w w' := by
  obtain ⟨A, n, c, rfl⟩ := fu
  obtain ⟨B, m, d, rfl⟩ := fv
  have D := Div_p hu hv
  have LV := Lib.hid lives_c
  by_cases h : ed e1 e2 b = 0
  · rw [h, if_pos rfl, if_pos rfl] at D
    have h1 : ee e1 e2 = 0 := by
      unfold ed at h
      by_cases h4 : ee e1 e2 = 0
      · exact h4
      · rw [if_pos h4] at h; exact absurd h h4
    have h2 := ee0.1 h1
    obtain ⟨rfl, rfl⟩ := h2
    have hb0 : b ≠ 0 := by
      intro e
      unfold ed at h
      rw [if_neg (by simp [h1]), if_pos e] at h
      cases h
    have sa := hu.small
    have sb := hv.small
    have a4 := sa.2 rfl
    have b4 := sb.2 rfl
    have q0 : 0 ≤ a / b := Int.ediv_nonneg sa.1 sb.1
    have q1 := Int.ediv_le_self b sa.1
    have r0 := Int.emod_nonneg a hb0
    have r1 := Int.emod_lt_of_pos a (show 0 < b by omega)
    have eqn : a / b * b + a % b = a := by rw [Int.mul_comm]; have := Int.emod_add_mul_ediv a b; omega
    have p0 : 0 ≤ a / b * b := Int.mul_nonneg q0 sb.1
    have eq1 := erz_0 (show a / b < _ by exact Int.lt_of_le_of_lt q1 a4)
    have er1 := erz_0 (show a % b < _ by exact Int.lt_trans r1 b4)
    have ep1 := erz_0 (show a / b * b < _ by exact Int.lt_of_le_of_lt (by omega) a4)
    have ea1 := erz_0 a4
    have hcm : cmpv (a % b) b = -1 := Z.cmpv_lt r1
    have HU : Hid (∀ W, Below w.heap.size w W → PV W (.slice A n c) 0 a) := fun W h => hu.below h
    have HV : Hid (∀ W, Below w.heap.size w W → PV W (.slice B m d) 0 b) := fun W h => hv.below h
    have ha3 : a < big3 := (big3_bds a4 b4 sa.1 sb.1).2.2.1
    have hpb : a / b * b < big3 := by omega
    have rle : a % b ≤ a := by omega
    have OK2 : Hid (∀ W : World, Calls Tryd.prog 27 #[.slice (some ⟨W.heap.size, 0, none⟩) 2 2] (W.alloc (.cells #[.int .i64 0, .int .i64 0] 23)) fun e w' => e = .returned (.bool true) ∧ W.alloc (.cells #[.int .i64 0, .int .i64 0] 23) = w') := fun W => ok_lit W [0, 0] (by simp)
    have OK3 : Hid (∀ W : World, Calls Tryd.prog 27 #[.slice (some ⟨W.heap.size, 0, none⟩) 3 3] (W.alloc (.cells #[.int .i64 0, .int .i64 0, .int .i64 0] 23)) fun e w' => e = .returned (.bool true) ∧ W.alloc (.cells #[.int .i64 0, .int .i64 0, .int .i64 0] 23) = w') := fun W => ok_lit W [0, 0, 0] (by simp)
    have D := Lib.hid D
    have H1 := Lib.hid eq1
    have H2 := Lib.hid er1
    have H3 := Lib.hid ep1
    have H4 := Lib.hid ea1
    have H5 := Lib.hid eqn
    have H6 := Lib.hid (show a - a % b = a / b * b by omega)
    have HC := Lib.hid hcm
    generalize a / b = q at *
    generalize a % b = r at *
    have CM : Hid (∀ W s, PV W s 0 r → PV W (.slice B m d) 0 b → Calls Tryd.prog 30 #[s, .slice B m d] W (RetQ W (.tuple #[.int .i64 (-1), .int .i64 0]))) := fun W s h1 h2 => by have := Cmp_0 h1 h2; rwa [HC.out] at this
    clear h h1 hb0 sa sb a4 b4 q0 q1 r0 r1 eqn p0 eq1 er1 ep1 ea1 hcm hu hv
    go_enter Tryd.func5, Tryd.ntmps5
    go_wp2_with (first
      | (go_at_call 29; (with_reducible refine (D.out).mono ?_); rintro e w1 ⟨A2, n2, c2, A3, n3, c3, rfl, hp2, hp3, hv2, hv3, hb1⟩; rw [H1.out] at hp2; rw [H2.out] at hp3)
      | (go_at_call 25; (with_reducible refine (LV.out w1).mono ?_); rintro e w2 ⟨rfl, b2⟩; have B2 := hb1.trans (b2.mono hb1.size); have P2 := hp2.below b2; have P3 := hp3.below b2)
      | (go_at_call 28; (with_reducible refine (Mul_0 P2 (HV.out _ B2)).mono ?_); rintro e w3 ⟨A4, n4, c4, rfl, hp4, hv4, b3⟩; rw [H3.out] at hp4; have B3 := B2.trans (b3.mono B2.size); have R3 := P3.below b3)
      | (go_at_call 24; (with_reducible refine (Add_0 hp4 R3).mono ?_); rintro e w4 ⟨A5, n5, c5, rfl, hp5, hv5, b4⟩; rw [H5.out] at hv5; rw [H5.out, H4.out] at hp5; have B4 := B3.trans (b4.mono B3.size); have R4 := R3.below b4; have V4 := hv4.below b4)
      | (go_at_call 30; (with_reducible refine (CM.out _ _ R4 (HV.out _ B4)).mono ?_); rintro e w5 ⟨rfl, k5, rfl⟩)
      | (go_at_call 31; (with_reducible refine (Sub_0 (hp5.drewN k5) (R4.drewN k5) rle).mono ?_); rintro e w6 ⟨A6, n6, c6, rfl, hp6, hv6, b6⟩; rw [H6.out] at hv6; have b6 := undrewN b6; have B6 := B4.trans (b6.mono B4.size); have V5 := hv5.below b6; have V6 := V4.below b6)
      | (go_at_call 27; (with_reducible refine (OK2.out _).mono ?_); rintro e w7 ⟨rfl, hw7⟩; have b7 : Below w6.heap.size w6 w7 := (by rw [← hw7]; exact lit_below _ _); clear hw7; have B7 := B6.trans (b7.mono B6.size); have V7 := V5.below b7)
      | (go_at_call 26; (with_reducible refine (Equal_0 V7 (HU.out _ B7).nv ha3).mono ?_); rintro e w8 ⟨rfl, k8, hw8⟩; have b8 : Below w7.heap.size w7 w8 := (by rw [hw8]; exact ⟨rfl, rfl, rfl, Nat.le_refl _, fun _ _ => rfl⟩); clear hw8; have B8 := B7.trans (b8.mono B7.size))
      | (go_at_call 27; (with_reducible refine (OK3.out _).mono ?_); rintro e w9 ⟨rfl, hw9⟩; have b9 : Below w8.heap.size w8 w9 := (by rw [← hw9]; exact lit_below _ _); clear hw9; have B9 := B8.trans (b9.mono B8.size); have X1 := ((hv6.below b7).below b8).below b9; have X2 := ((V6.below b7).below b8).below b9)
      | (go_at_call 26; (with_reducible refine (Equal_0 X1 X2 hpb).mono ?_); rintro e w10 ⟨rfl, k10, rfl⟩))
    go_ret
    exact ⟨rfl, B9.os, B9.tape, B9.output, B9.size, B9.block⟩
  · rw [if_neg h, if_neg h] at D
    obtain ⟨E, hE⟩ : ∃ E, ed e1 e2 b = E := ⟨_, rfl⟩
    rw [hE] at D h
    have e1 : (E != 0) = true := by simp [h]
    have D := Lib.hid D
    clear hE h hu hv
    go_enter Tryd.func5, Tryd.ntmps5
    go_wp2_with (first
      | (go_at_call 29; (with_reducible refine (D.out).mono ?_); rintro e w1 ⟨A2, n2, c2, A3, n3, c3, rfl, hp2, hp3, hv2, hv3, hb1⟩; have z2 := NV.zero hv2; have z3 := NV.zero hv3; subst z2; subst z3)
      | (go_at_call 25; (with_reducible refine (LV.out w1).mono ?_); rintro e w2 ⟨rfl, b2⟩; have B2 := hb1.trans (b2.mono hb1.size))
      | (go_at_call 25; (with_reducible refine (LV.out w2).mono ?_); rintro e w3 ⟨rfl, b3⟩; have B3 := B2.trans (b3.mono B2.size)))
    go_ret
    exact ⟨rfl, B3⟩
end NK
end Go.Proofs.YtjihapnplfdmmaaDoor
