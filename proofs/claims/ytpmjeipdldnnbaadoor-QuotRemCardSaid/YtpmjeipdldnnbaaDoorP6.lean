/-
  Package prod: Mul, Fma.
-/
import Derived.Test.YtpmjeipdldnnbaaDoorP5
namespace Go.Proofs.YtpmjeipdldnnbaaDoor
set_option linter.unusedVariables false
set_option linter.unusedSimpArgs false
open Go.RowKit
set_option linter.unusedVariables false
set_option linter.unusedSimpArgs false
namespace PC
open L NC NK DC RC SC
theorem TE_ok {d : Dy} {mode : Int} (hm : 0 ≤ mode ∧ mode ≤ 4) (h : Ok d) : TE d mode = 0 := by
  unfold TE
  rw [if_neg (by simpa using h.1), if_pos hm]
set_option maxRecDepth 100000 in
theorem Mul_c (x y mode : Int) (w : World) (hx : 0 ≤ x ∧ x ≤ 18446744073709551615) (hy : 0 ≤ y ∧ y ≤ 18446744073709551615) (hT : TabD w) :
    Calls Tryd.prog 23 #[.int .u64 x, .int .u64 y, .int .i64 mode] w (DC.RetB w (ATv (MT x y mode))) := by
  have CM := Lib.hid (checkModeP_c mode w hT)
  have BC : Hid (∀ W : World, Calls Tryd.prog 61 #[.int .u64 x, .int .u64 y] W fun e w' => e = .returned (.tuple #[.int .u64 (bc x y).1, .bool (bc x y).2]) ∧ W = w') := fun W => byClass_c x y W hx hy
  unfold ATv
  by_cases hm : 0 ≤ mode ∧ mode ≤ 4
  · rw [if_pos hm] at CM
    cases h : (bc x y).2
    · have n := (bc_no hx hy).1 h
      have p := pd_p n.1 n.2.1 rfl
      have EX : Hid (∀ W, Below w.heap.size w W → Calls Tryd.prog 63 #[.int .u64 x, .int .u64 y] W (RetD W (PD x y))) := fun W hW => exact_c x y W hx hy (hT.below hW)
      have TOc : Hid (∀ (W : World) (v : Value), DV W v (PD x y).d → Below w.heap.size w W → Calls Tryd.prog 32 #[v, .int .i64 mode] W (DC.RetB W (.tuple #[.int .u64 (TX (PD x y).d mode), .bool (TL (PD x y).d mode), .int .i64 0]))) := fun W v hv hW => by
        have := To_d v _ mode W hv (hT.below hW)
        rwa [TE_ok hm p.2.1.ok] at this
      rw [MT_fi hm h]
      rw [h] at BC
      generalize (bc x y).1 = v1 at *
      generalize TX (PD x y).d mode = tx at *
      generalize TL (PD x y).d mode = tl at *
      generalize PD x y = r at *
      obtain ⟨re, d⟩ := r
      clear hT hx hy hm h n p
      go_enter Tryd.func23, Tryd.ntmps23
      go_wp2_with (first
        | (go_at_call 60; (with_reducible refine (CM.out).mono ?_); rintro e w1 ⟨rfl, hb⟩; have D := Lib.hid hb; clear hb)
        | (go_at_call 61; (with_reducible refine (BC.out _).mono ?_); rintro e w2 ⟨rfl, rfl⟩)
        | (go_at_call 63; (with_reducible refine (EX.out _ D.out).mono ?_); rintro e w3 ⟨b3, A3, n3, c3, x3, rfl, hv, hb⟩; have s := hb.alloc hb.size (.cells #[.bool b3, .slice A3 n3 c3, .int .i64 x3] 35); have Xb := BD.new hv.dv; have D := Lib.hid (D.out.trans (s.mono D.out.size)); clear hv hb s; obtain ⟨b_0, b_1, b_2⟩ := Xb.bx)
        | (go_at_call 32; (with_reducible refine (TOc.out _ _ Xb.dv D.out).mono ?_); rintro e w5 ⟨rfl, hb⟩; have D := Lib.hid (D.out.trans (hb.mono D.out.size)); clear hb))
      go_ret3
      exact ⟨rfl, D.out⟩
    · rw [MT_bc hm h]
      rw [h] at BC
      generalize (bc x y).1 = v1 at *
      clear hT hx hy hm h
      go_enter Tryd.func23, Tryd.ntmps23
      go_wp2_with (first
        | (go_at_call 60; (with_reducible refine (CM.out).mono ?_); rintro e w1 ⟨rfl, hb⟩; have D := Lib.hid hb; clear hb)
        | (go_at_call 61; (with_reducible refine (BC.out _).mono ?_); rintro e w2 ⟨rfl, rfl⟩))
      go_ret3
      exact ⟨rfl, D.out⟩
  · rw [if_neg hm] at CM
    rw [MT_no hm]
    clear hT hx hy hm BC
    go_enter Tryd.func23, Tryd.ntmps23
    go_wp2_with (first
      | (go_at_call 60; (with_reducible refine (CM.out).mono ?_); rintro e w1 ⟨rfl, hb⟩; have D := Lib.hid hb; clear hb))
    go_ret3
    exact ⟨rfl, D.out⟩
set_option maxRecDepth 100000 in
set_option maxHeartbeats 4000000 in
theorem Fma_c (x y z mode : Int) (w : World) (hx : 0 ≤ x ∧ x ≤ 18446744073709551615) (hy : 0 ≤ y ∧ y ≤ 18446744073709551615) (hz : 0 ≤ z ∧ z ≤ 18446744073709551615) (hT : TabD w) :
    Calls Tryd.prog 21 #[.int .u64 x, .int .u64 y, .int .u64 z, .int .i64 mode] w (DC.RetB w (ATv (FT x y z mode))) := by
  have CM := Lib.hid (checkModeP_c mode w hT)
  have BC : Hid (∀ W : World, Calls Tryd.prog 61 #[.int .u64 x, .int .u64 y] W fun e w' => e = .returned (.tuple #[.int .u64 (bc x y).1, .bool (bc x y).2]) ∧ W = w') := fun W => byClass_c x y W hx hy
  by_cases hm : 0 ≤ mode ∧ mode ≤ 4
  · rw [if_pos hm] at CM
    cases h : (bc x y).2
    · have n := (bc_no hx hy).1 h
      have OF : Hid (∀ W, Below w.heap.size w W → Calls Tryd.prog 28 #[.int .u64 z] W (RetD W (OfD z))) := fun W hW => Of_d z hz.1 hz.2 W (hT.below hW)
      by_cases hq : F.exq z = 2047
      · rw [FT_nf hm h hq]
        have e1 : OfD z = ⟨4, dz⟩ := by unfold OfD; rw [if_pos hq]
        rw [e1] at OF
        have AD : Hid (∀ W : World, Below w.heap.size w W → Calls Tryd.prog 62 #[.int .u64 0, .int .u64 z, .int .i64 mode] W (DC.RetB W (ATv (AT [0, z] mode)))) := fun W hW => Add_c 0 z mode W (by omega) hz (hT.below hW)
        unfold ATv at AD ⊢
        rw [h] at BC
        generalize (bc x y).1 = v1 at *
        generalize AT [0, z] mode = t at *
        obtain ⟨t1, t2, t3⟩ := t
        clear hT hx hy hz hm h n hq e1
        go_enter Tryd.func21, Tryd.ntmps21
        go_wp2_with (first
          | (go_at_call 60; (with_reducible refine (CM.out).mono ?_); rintro e w1 ⟨rfl, hb⟩; have D := Lib.hid hb; clear hb)
          | (go_at_call 61; (with_reducible refine (BC.out _).mono ?_); rintro e w2 ⟨rfl, rfl⟩)
          | (go_at_call 28; (with_reducible refine (OF.out _ D.out).mono ?_); rintro e w3 ⟨b3, A3, n3, c3, x3, rfl, hv, hb⟩; have s := hb.alloc hb.size (.cells #[.bool b3, .slice A3 n3 c3, .int .i64 x3] 35); have D := Lib.hid (D.out.trans (s.mono D.out.size)); clear hv hb s)
          | (go_at_call 62; (with_reducible refine (AD.out _ D.out).mono ?_); rintro e w5 ⟨rfl, hb⟩; have D := Lib.hid (D.out.trans (hb.mono D.out.size)); clear hb))
        go_ret3
        exact ⟨rfl, D.out⟩
      · have fz : fi z := ⟨hz.1, hz.2, hq⟩
        have e0 := (of_fit fz).1
        have p := pd_p n.1 n.2.1 rfl
        have fp := fd_p n.1 n.2.1 fz
        rw [FT_fi hm h hq]
        have EX : Hid (∀ W, Below w.heap.size w W → Calls Tryd.prog 63 #[.int .u64 x, .int .u64 y] W (RetD W (PD x y))) := fun W hW => exact_c x y W hx hy (hT.below hW)
        have AD : Hid (∀ (W : World) (u v : Value), DV W u (PD x y).d → DV W v (OfD z).d → Below w.heap.size w W → ∃ re, Calls Tryd.prog 64 #[u, v] W (RetD W ⟨re, fd x y z⟩)) := fun W u v h1 h2 hW => ⟨(DC.Add (PD x y).d (OfD z).d).e, Add_d u v _ _ W h1 h2 (hT.below hW)⟩
        have TOc : Hid (∀ (W : World) (v : Value), DV W v (fd x y z) → Below w.heap.size w W → Calls Tryd.prog 32 #[v, .int .i64 mode] W (DC.RetB W (.tuple #[.int .u64 (TX (fd x y z) mode), .bool (TL (fd x y z) mode), .int .i64 0]))) := fun W v hv hW => by
          have := To_d v _ mode W hv (hT.below hW)
          rwa [TE_ok hm fp.1.ok] at this
        have gz : Hid (∀ (W : World) (b : Bool) (A : Option Addr) (n c : Nat) (x' : Int), GV W b A n c x' (fd x y z) → (n = 0 ↔ (fd x y z).m = 0)) := fun W b A n c x h => gv_zero h
        rw [h] at BC
        unfold ATv
        generalize (bc x y).1 = v1 at *
        generalize TX (fd x y z) mode = tx at *
        generalize TL (fd x y z) mode = tl at *
        generalize fd x y z = df at *
        generalize PD x y = r at *
        obtain ⟨re, d⟩ := r
        have ez : OfD z = ⟨0, (OfD z).d⟩ := by rw [← e0]
        rw [ez] at OF
        dsimp only at OF AD
        generalize (OfD z).d = dzz at OF AD
        clear hT hx hy hz hm h n hq fz p fp e0 ez
        have key : ∀ t : Int × Bool × Int, (t = if df.m = 0 ∧ mode = 2 then (9223372036854775808, false, 0) else (tx, tl, 0)) → Calls Tryd.prog 21 #[.int .u64 x, .int .u64 y, .int .u64 z, .int .i64 mode] w (DC.RetB w (.tuple #[.int .u64 t.1, .bool t.2.1, .int .i64 t.2.2])) := by
          rintro t ht
          by_cases h0 : df.m = 0
          · have gz2 : Hid (∀ (W : World) (b : Bool) (A : Option Addr) (n c : Nat) (x : Int), GV W b A n c x df → n = 0) := fun W b A n c x h => (gz.out W b A n c x h).2 h0
            by_cases h2 : mode = 2
            · rw [if_pos ⟨h0, h2⟩] at ht
              subst ht
              subst h2
              clear gz TOc h0
              go_enter Tryd.func21, Tryd.ntmps21
              go_wp2_with (first
                | (go_at_call 60; (with_reducible refine (CM.out).mono ?_); rintro e w1 ⟨rfl, hb⟩; have D := Lib.hid hb; clear hb)
                | (go_at_call 61; (with_reducible refine (BC.out _).mono ?_); rintro e w2 ⟨rfl, rfl⟩)
                | (go_at_call 28; (with_reducible refine (OF.out _ D.out).mono ?_); rintro e w3 ⟨b3, A3, n3, c3, x3, rfl, hv, hb⟩; have s := hb.alloc hb.size (.cells #[.bool b3, .slice A3 n3 c3, .int .i64 x3] 35); have X1 := BD.new hv.dv; have D := Lib.hid (D.out.trans (s.mono D.out.size)); clear hv hb s)
                | (go_at_call 63; (with_reducible refine (EX.out _ D.out).mono ?_); rintro e w4 ⟨b4, A4, n4, c4, x4, rfl, hv, hb⟩; have s := hb.alloc hb.size (.cells #[.bool b4, .slice A4 n4 c4, .int .i64 x4] 35); have X2 := BD.new hv.dv; have X1 := X1.below s; have D := Lib.hid (D.out.trans (s.mono D.out.size)); clear hv hb s; obtain ⟨a_0, a_1, a_2⟩ := X1.bx; obtain ⟨b_0, b_1, b_2⟩ := X2.bx)
                | (go_at_call 64; obtain ⟨re5, had⟩ := AD.out _ _ _ X2.dv X1.dv D.out; (with_reducible refine had.mono ?_); clear had; rintro e w5 ⟨b5, A5, n5, c5, x5, rfl, hv, hb⟩; obtain rfl := gz2.out _ _ _ _ _ _ hv; have s := hb.alloc hb.size (.cells #[.bool b5, .slice A5 0 c5, .int .i64 x5] 35); have X3 := BD.new hv.dv; have D := Lib.hid (D.out.trans (s.mono D.out.size)); clear hv hb s; obtain ⟨c_0, c_1, c_2⟩ := X3.bx))
              go_ret3
              exact ⟨rfl, D.out⟩
            · rw [if_neg (fun k => h2 k.2)] at ht
              subst ht
              have t2 : (mode == 2) = false := by simp [h2]
              clear gz h0 h2
              go_enter Tryd.func21, Tryd.ntmps21
              go_wp2_with (first
                | (go_at_call 60; (with_reducible refine (CM.out).mono ?_); rintro e w1 ⟨rfl, hb⟩; have D := Lib.hid hb; clear hb)
                | (go_at_call 61; (with_reducible refine (BC.out _).mono ?_); rintro e w2 ⟨rfl, rfl⟩)
                | (go_at_call 28; (with_reducible refine (OF.out _ D.out).mono ?_); rintro e w3 ⟨b3, A3, n3, c3, x3, rfl, hv, hb⟩; have s := hb.alloc hb.size (.cells #[.bool b3, .slice A3 n3 c3, .int .i64 x3] 35); have X1 := BD.new hv.dv; have D := Lib.hid (D.out.trans (s.mono D.out.size)); clear hv hb s)
                | (go_at_call 63; (with_reducible refine (EX.out _ D.out).mono ?_); rintro e w4 ⟨b4, A4, n4, c4, x4, rfl, hv, hb⟩; have s := hb.alloc hb.size (.cells #[.bool b4, .slice A4 n4 c4, .int .i64 x4] 35); have X2 := BD.new hv.dv; have X1 := X1.below s; have D := Lib.hid (D.out.trans (s.mono D.out.size)); clear hv hb s; obtain ⟨a_0, a_1, a_2⟩ := X1.bx; obtain ⟨b_0, b_1, b_2⟩ := X2.bx)
                | (go_at_call 64; obtain ⟨re5, had⟩ := AD.out _ _ _ X2.dv X1.dv D.out; (with_reducible refine had.mono ?_); clear had; rintro e w5 ⟨b5, A5, n5, c5, x5, rfl, hv, hb⟩; obtain rfl := gz2.out _ _ _ _ _ _ hv; have s := hb.alloc hb.size (.cells #[.bool b5, .slice A5 0 c5, .int .i64 x5] 35); have X3 := BD.new hv.dv; have D := Lib.hid (D.out.trans (s.mono D.out.size)); clear hv hb s; obtain ⟨c_0, c_1, c_2⟩ := X3.bx)
                | (go_at_call 32; (with_reducible refine (TOc.out _ _ X3.dv D.out).mono ?_); rintro e w6 ⟨rfl, hb⟩; have D := Lib.hid (D.out.trans (hb.mono D.out.size)); clear hb))
              go_ret3
              exact ⟨rfl, D.out⟩
          · rw [if_neg (fun k => h0 k.1)] at ht
            subst ht
            have gz2 : Hid (∀ (W : World) (b : Bool) (A : Option Addr) (n c : Nat) (x : Int), GV W b A n c x df → n ≠ 0) := fun W b A n c x h h1 => h0 ((gz.out W b A n c x h).1 h1)
            clear gz h0
            go_enter Tryd.func21, Tryd.ntmps21
            go_wp2_with (first
              | (go_at_call 60; (with_reducible refine (CM.out).mono ?_); rintro e w1 ⟨rfl, hb⟩; have D := Lib.hid hb; clear hb)
              | (go_at_call 61; (with_reducible refine (BC.out _).mono ?_); rintro e w2 ⟨rfl, rfl⟩)
              | (go_at_call 28; (with_reducible refine (OF.out _ D.out).mono ?_); rintro e w3 ⟨b3, A3, n3, c3, x3, rfl, hv, hb⟩; have s := hb.alloc hb.size (.cells #[.bool b3, .slice A3 n3 c3, .int .i64 x3] 35); have X1 := BD.new hv.dv; have D := Lib.hid (D.out.trans (s.mono D.out.size)); clear hv hb s)
              | (go_at_call 63; (with_reducible refine (EX.out _ D.out).mono ?_); rintro e w4 ⟨b4, A4, n4, c4, x4, rfl, hv, hb⟩; have s := hb.alloc hb.size (.cells #[.bool b4, .slice A4 n4 c4, .int .i64 x4] 35); have X2 := BD.new hv.dv; have X1 := X1.below s; have D := Lib.hid (D.out.trans (s.mono D.out.size)); clear hv hb s; obtain ⟨a_0, a_1, a_2⟩ := X1.bx; obtain ⟨b_0, b_1, b_2⟩ := X2.bx)
              | (go_at_call 64; obtain ⟨re5, had⟩ := AD.out _ _ _ X2.dv X1.dv D.out; (with_reducible refine had.mono ?_); clear had; rintro e w5 ⟨b5, A5, n5, c5, x5, rfl, hv, hb⟩; have hn5 := gz2.out _ _ _ _ _ _ hv; have hd5 : ((n5 : Int) == 0) = false := (by simpa using hn5); have s := hb.alloc hb.size (.cells #[.bool b5, .slice A5 n5 c5, .int .i64 x5] 35); have X3 := BD.new hv.dv; have D := Lib.hid (D.out.trans (s.mono D.out.size)); clear hv hb s; obtain ⟨c_0, c_1, c_2⟩ := X3.bx)
              | (go_at_call 32; (with_reducible refine (TOc.out _ _ X3.dv D.out).mono ?_); rintro e w6 ⟨rfl, hb⟩; have D := Lib.hid (D.out.trans (hb.mono D.out.size)); clear hb))
            go_ret3
            exact ⟨rfl, D.out⟩
        exact key _ rfl
    · rw [FT_bc hm h]
      have bb := bc_bd x y
      rw [h] at BC
      generalize (bc x y).1 = v1 at *
      have AD : Hid (∀ W : World, Below w.heap.size w W → Calls Tryd.prog 62 #[.int .u64 v1, .int .u64 z, .int .i64 mode] W (DC.RetB W (ATv (AT [v1, z] mode)))) := fun W hW => Add_c v1 z mode W bb hz (hT.below hW)
      unfold ATv at AD ⊢
      generalize AT [v1, z] mode = t at *
      obtain ⟨t1, t2, t3⟩ := t
      clear hT hx hy hz hm h bb
      go_enter Tryd.func21, Tryd.ntmps21
      go_wp2_with (first
        | (go_at_call 60; (with_reducible refine (CM.out).mono ?_); rintro e w1 ⟨rfl, hb⟩; have D := Lib.hid hb; clear hb)
        | (go_at_call 61; (with_reducible refine (BC.out _).mono ?_); rintro e w2 ⟨rfl, rfl⟩)
        | (go_at_call 62; (with_reducible refine (AD.out _ D.out).mono ?_); rintro e w5 ⟨rfl, hb⟩; have D := Lib.hid (D.out.trans (hb.mono D.out.size)); clear hb))
      go_ret3
      exact ⟨rfl, D.out⟩
  · rw [if_neg hm] at CM
    rw [FT_no hm]
    unfold ATv
    clear hT hx hy hz hm BC
    go_enter Tryd.func21, Tryd.ntmps21
    go_wp2_with (first
      | (go_at_call 60; (with_reducible refine (CM.out).mono ?_); rintro e w1 ⟨rfl, hb⟩; have D := Lib.hid hb; clear hb))
    go_ret3
    exact ⟨rfl, D.out⟩
end PC
end Go.Proofs.YtpmjeipdldnnbaaDoor
