/-
  Package whole: its contracts.
-/
import Derived.Test.YtpmpkllpaceloaaDoorI14
import Derived.Test.YtpmpkllpaceloaaDoorC8
namespace Go.Proofs.YtpmpkllpaceloaaDoor
set_option linter.unusedVariables false
set_option linter.unusedSimpArgs false
open Go.RowKit
set_option linter.unusedVariables false
set_option linter.unusedSimpArgs false
namespace IC
open L NC NK DC RC SC QC
open Z (cmpv)
def ItV (t : Int × Bool × Int) : Value := .tuple #[.int .i64 t.1, .bool t.2.1, .int .i64 t.2.2]
/-- what Cut tells at 0 places of a number, or of what is none -/
theorem cut_0 {x mode : Int} (w : World) (l : Bool) (er : Int) (d : Dy) (hx : 0 ≤ x ∧ x ≤ 18446744073709551615) (hT : TabD w) (e1 : CR (OfD x).d 0 mode = ⟨er, d⟩) (e2 : CL (OfD x).d 0 mode = l) :
    Hid (∀ (W : World) (u : Value), Below w.heap.size w W → DV W u (OfD x).d → Calls Tryd.prog 34 #[u, .int .i64 0, .int .i64 mode] W (fun e w' => ∃ b A n c x', e = .returned (.tuple #[.agg #[.bool b, .slice A n c, .int .i64 x'], .bool l, .int .i64 er]) ∧ GV w' b A n c x' d ∧ Below W.heap.size W w')) := fun W u hW hu => by
  have := Cut_d u _ 0 mode W hu (hT.below hW)
  rw [e1, e2] at this
  refine this.mono ?_
  rintro e w' ⟨b, A, n, c, x', rfl, h1, h2⟩
  exact ⟨b, A, n, c, x', rfl, h1, h2⟩
theorem of_er (x : Int) : (OfD x).d.er = 0 := by
  unfold OfD
  split
  · rfl
  · exact (fin_ok _ _).1
theorem re_eq (r : Re) (h : r.e = 0) : r = ⟨0, r.d⟩ := by cases r; cases h; rfl
set_option maxHeartbeats 4000000 in
theorem Round_c (x mode : Int) (w : World) (hx : 0 ≤ x ∧ x ≤ 18446744073709551615) (hT : TabD w) : Calls Tryd.prog 7 #[.int .u64 x, .int .i64 mode] w (DC.RetB w (ATv (WT x mode))) := by
  have HT : Hid (∀ W : World, Below w.heap.size w W → TabD W) := fun W hW => hT.below hW
  have D := Lib.hid (Below.refl w.heap.size w)
  have KL : Hid (∀ W : World, Calls Tryd.prog 35 #[.int .u64 x] W fun e w' => e = .returned (.int .i64 (F.cls x)) ∧ W = w') := fun W => FloatC.Class_c x hx.1 hx.2 W
  have OF : Hid (∀ W, Below w.heap.size w W → Calls Tryd.prog 33 #[.int .u64 x] W (RetD W (OfD x))) := fun W hW => Of_d x hx.1 hx.2 W (HT.out W hW)
  by_cases hm : 0 ≤ mode ∧ mode ≤ 4
  · by_cases h5 : F.cls x = 5 ∨ F.cls x = 4
    · have ex : F.exq x = 2047 := by
        rcases Classical.em (F.exq x = 2047) with q | q
        · exact q
        · have := cls_fi.2 q; omega
      have eo : OfD x = ⟨4, dz⟩ := by unfold OfD; rw [if_pos ex]
      have e1 : CR (OfD x).d 0 mode = ⟨0, dz⟩ := by
        rw [eo]; unfold CR
        rw [if_neg (by simp [dz]), if_neg (fun h => h ⟨hm, by omega, by omega⟩), if_pos (.inl rfl)]
      have e2 : CL (OfD x).d 0 mode = false := by
        rw [eo]; unfold CL
        rw [if_pos (.inr (.inr (.inl rfl)))]
      have CU := cut_0 w false 0 dz hx hT e1 e2
      have hr : WT x mode = (if F.cls x = 5 then 9221120237041090560 else x, false, 0) := by
        unfold WT
        rw [if_neg (by omega)]
        rcases h5 with h | h
        · rw [if_pos h, if_pos h]
        · rw [if_neg (by omega), if_pos h, if_neg (by omega)]
      rw [hr]
      rw [eo] at OF CU
      unfold ATv
      clear e1 e2 eo ex hr hm hT hx
      rcases h5 with h5 | h5
      all_goals (
        rw [h5] at KL ⊢
        clear h5
        go_enter Tryd.func7, Tryd.ntmps7
        go_wp2_with (first
          | (go_at_call 35; (with_reducible refine (KL.out _).mono ?_); rintro e w1 ⟨rfl, rfl⟩)
          | (go_at_call 33; (with_reducible refine (OF.out _ D.out).mono ?_); rintro e w2 ⟨b2, A2, n2, c2, x2, rfl, hv, hb⟩; have s := hb.alloc hb.size (.cells #[.bool b2, .slice A2 n2 c2, .int .i64 x2] 51); have Xa := BD.new hv.dv; have D := Lib.hid (D.out.trans (s.mono D.out.size)); clear hv hb s)
          | (go_at_call 34; (with_reducible refine (CU.out _ _ D.out Xa.dv).mono ?_); rintro e w3 ⟨b3, A3, n3, c3, x3, rfl, hv, hb⟩; have s := hb.alloc hb.size (.cells #[.bool b3, .slice A3 n3 c3, .int .i64 x3] 51); have Xb := BD.new hv.dv; have D := Lib.hid (D.out.trans (s.mono D.out.size)); clear hv hb s))
        go_ret3
        exact ⟨rfl, D.out⟩)
    · have h5 : F.cls x ≠ 5 ∧ F.cls x ≠ 4 := ⟨fun h => h5 (.inl h), fun h => h5 (.inr h)⟩
      have hf : fi x := (fi_cls hx).2 h5
      have e : WT x mode = (WX x mode, lostW x, 0) := by unfold WT; rw [if_neg (by omega), if_neg h5.1, if_neg h5.2]
      have ew := wx_to hf hm
      have ef := wx_fi hf hm
      obtain ⟨c1, c2, c3, c4, c5, -⟩ := whole_p rfl hf hm
      have c4 : CL (OfD x).d 0 mode = lostW x := c4
      have CU := cut_0 w _ 0 (WC x mode) hx hT (re_eq _ c1) c4
      have TO : Hid (∀ (W : World) (u : Value), Below w.heap.size w W → DV W u (WC x mode) → Calls Tryd.prog 36 #[u, .int .i64 mode] W (DC.RetB W (.tuple #[.int .u64 (TX (WC x mode) mode), .bool (TL (WC x mode) mode), .int .i64 0]))) := fun W u hW hu => by
        have := To_d u _ mode W hu (HT.out W hW)
        have e0 : TE (WC x mode) mode = 0 := by unfold TE; rw [if_neg (by simpa using c2.1), if_pos hm]
        rwa [e0] at this
      have k5 : (F.cls x == 5) = false := by simp [h5.1]
      have k4 : (F.cls x == 4) = false := by simp [h5.2]
      have hb0 := ef.1
      have hc : bits .or .u64 (TX (WC x mode) mode) (bits .and .u64 x 9223372036854775808) = WX x mode := by
        have sx := F.sgn_iff x
        have sx' := F.sgn_iff' x
        by_cases q : TX (WC x mode) mode = 0
        · refine rs_bits hx (by omega) ?_
          by_cases q2 : 9223372036854775808 ≤ x
          · rw [if_pos ⟨q, q2⟩] at ew; exact .inl ⟨q, sx.2 q2, ew⟩
          · rw [if_neg (fun h => q2 h.2)] at ew; exact .inr (.inl ⟨q, sx'.2 (by omega), by rw [ew, q]⟩)
        · rw [if_neg (fun h => q h.1)] at ew
          refine rs_bits hx ?_ (.inr (.inr ⟨ew, ?_⟩))
          · rw [← ew]; exact ⟨hb0.1, hb0.2.1⟩
          · rw [← ew]; exact ef.2.2
      rw [e]
      unfold ATv
      dsimp only
      generalize lostW x = l at *
      generalize TL (WC x mode) mode = l2 at *
      generalize TX (WC x mode) mode = y at *
      generalize WX x mode = z at *
      generalize WC x mode = dw at *
      generalize OfD x = r at *
      generalize F.cls x = k at *
      have HC := Lib.hid hc
      clear hm h5 e hx hT hf ew c1 c2 c3 c4 c5 ef hb0 hc
      go_enter Tryd.func7, Tryd.ntmps7
      go_wp2_with (first
        | (go_at_call 35; (with_reducible refine (KL.out _).mono ?_); rintro e w1 ⟨rfl, rfl⟩)
        | (go_at_call 33; (with_reducible refine (OF.out _ D.out).mono ?_); rintro e w2 ⟨b2, A2, n2, c2, x2, rfl, hv, hb⟩; have s := hb.alloc hb.size (.cells #[.bool b2, .slice A2 n2 c2, .int .i64 x2] 51); have Xa := BD.new hv.dv; have D := Lib.hid (D.out.trans (s.mono D.out.size)); clear hv hb s)
        | (go_at_call 34; (with_reducible refine (CU.out _ _ D.out Xa.dv).mono ?_); rintro e w3 ⟨b3, A3, n3, c3, x3, rfl, hv, hb⟩; have s := hb.alloc hb.size (.cells #[.bool b3, .slice A3 n3 c3, .int .i64 x3] 51); have Xb := BD.new hv.dv; have D := Lib.hid (D.out.trans (s.mono D.out.size)); clear hv hb s)
        | (go_at_call 36; (with_reducible refine (TO.out _ _ D.out Xb.dv).mono ?_); rintro e w4 ⟨rfl, hb⟩; have D := Lib.hid (D.out.trans (hb.mono D.out.size)); clear hb))
      go_ret3
      exact ⟨by rw [HC.out]; rfl, D.out⟩
  · have e : WT x mode = (0, false, 1) := by unfold WT; rw [if_pos hm]
    have e1 : CR (OfD x).d 0 mode = ⟨1, dz⟩ := by
      unfold CR
      rw [if_neg (by simp [of_er]), if_pos (fun h => hm h.1)]
    have e2 : CL (OfD x).d 0 mode = false := by
      unfold CL
      rw [if_pos (.inr (.inl (fun h => hm h.1)))]
    have CU := cut_0 w false 1 dz hx hT e1 e2
    rw [e]
    unfold ATv
    generalize OfD x = r at *
    clear e hx hT e1 e2 hm
    go_enter Tryd.func7, Tryd.ntmps7
    go_wp2_with (first
      | (go_at_call 33; (with_reducible refine (OF.out _ D.out).mono ?_); rintro e w2 ⟨b2, A2, n2, c2, x2, rfl, hv, hb⟩; have s := hb.alloc hb.size (.cells #[.bool b2, .slice A2 n2 c2, .int .i64 x2] 51); have Xa := BD.new hv.dv; have D := Lib.hid (D.out.trans (s.mono D.out.size)); clear hv hb s)
      | (go_at_call 34; (with_reducible refine (CU.out _ _ D.out Xa.dv).mono ?_); rintro e w3 ⟨b3, A3, n3, c3, x3, rfl, hv, hb⟩; have s := hb.alloc hb.size (.cells #[.bool b3, .slice A3 n3 c3, .int .i64 x3] 51); have Xb := BD.new hv.dv; have D := Lib.hid (D.out.trans (s.mono D.out.size)); clear hv hb s))
    go_ret3
    exact ⟨rfl, D.out⟩
theorem Is_c (x : Int) (w : World) (hx : 0 ≤ x ∧ x ≤ 18446744073709551615) (hT : TabD w) : Calls Tryd.prog 23 #[.int .u64 x] w (DC.RetB w (.bool (WI x))) := by
  have OF := Lib.hid (Of_d x hx.1 hx.2 w hT)
  have D := Lib.hid (Below.refl w.heap.size w)
  by_cases hf : fi x
  · have e0 := (of_fit hf).1
    have hc := cls_fi.2 hf.2.2
    have ex := is_x hf
    have e : WI x = decide ((OfD x).d.x ≥ 0) := by
      unfold WI
      rw [decide_eq_false (by omega)]
      cases hl : lostW x
      · rw [decide_eq_true (ex.2 hl)]; rfl
      · have : ¬ (OfD x).d.x ≥ 0 := fun q => by rw [ex.1 q] at hl; cases hl
        rw [decide_eq_false this]; rfl
    rw [e]
    generalize OfD x = r at *
    obtain ⟨re, rd⟩ := r
    dsimp only at e0 e ex ⊢
    subst e0
    clear e ex hc hf hx hT
    go_enter Tryd.func23, Tryd.ntmps23
    go_wp2_with (go_at_call 33; (with_reducible refine (OF.out).mono ?_); rintro e w2 ⟨b2, A2, n2, c2, x2, rfl, hv, hb⟩; obtain rfl := hv.2.2.1; have s := hb.alloc hb.size (.cells #[.bool b2, .slice A2 n2 c2, .int .i64 rd.x] 51); have D := Lib.hid (D.out.trans (s.mono D.out.size)); clear hv hb s)
    go_ret
    exact ⟨rfl, D.out⟩
  · have hc : F.cls x = 5 ∨ F.cls x = 4 := by
      rcases Classical.em (F.cls x = 5 ∨ F.cls x = 4) with h | h
      · exact h
      · exact absurd ((fi_cls hx).2 ⟨fun q => h (.inl q), fun q => h (.inr q)⟩) hf
    have e : WI x = false := by unfold WI; rw [decide_eq_true hc]; rfl
    have e1 : ((OfD x).e == 0) = false := by
      have : F.exq x = 2047 := by
        rcases Classical.em (F.exq x = 2047) with q | q
        · exact q
        · have := cls_fi.2 q; omega
      unfold OfD
      rw [if_pos this]; rfl
    rw [e]
    generalize OfD x = r at *
    clear e hc hf hx hT
    go_enter Tryd.func23, Tryd.ntmps23
    go_wp2_with (go_at_call 33; (with_reducible refine (OF.out).mono ?_); rintro e w2 ⟨b2, A2, n2, c2, x2, rfl, hv, hb⟩; have s := hb.alloc hb.size (.cells #[.bool b2, .slice A2 n2 c2, .int .i64 x2] 51); have D := Lib.hid (D.out.trans (s.mono D.out.size)); clear hv hb s)
    go_ret
    exact ⟨rfl, D.out⟩
theorem w64 (z : Int) : IntKind.u64.wrap z = z % 18446744073709551616 := by first | rfl | (unfold IntKind.wrap; simp [IntKind.bits, IntKind.signed])
theorem bdn' (W : World) (k : Nat) : Below W.heap.size W (W.drewN k) := by
  have h := Below.refl W.heap.size W
  exact ⟨h.os, h.tape, h.output, h.size, h.block⟩
theorem big3_small {a : Int} (h : a < 18446744073709551616) : a < big3 ∧ erz a = 0 := by
  have e : (4294967296 : Int) = 2 ^ 32 := by decide
  have h1 : (18446744073709551616 : Int) < big3 := by
    unfold big3
    rw [show (18446744073709551616 : Int) = 2 ^ 64 by decide, e, ← Int.pow_mul]
    exact two_lt' (by omega)
  have h2 : (18446744073709551616 : Int) < 4294967296 ^ 400 := by
    rw [show (18446744073709551616 : Int) = 2 ^ 64 by decide, e, ← Int.pow_mul]
    exact two_lt' (by omega)
  refine ⟨by omega, ?_⟩
  unfold erz
  rw [if_pos (by omega)]
theorem neg_i64 {s : Int} (h0 : 0 ≤ s) (h : s ≤ 9223372036854775808) : wrap64 (IntKind.u64.wrap (-s)) = -s := by
  rw [w64]; unfold wrap64; omega
theorem pos_i64 {s : Int} (h0 : 0 ≤ s) (h : s ≤ 9223372036854775807) : wrap64 s = s := by
  unfold wrap64; omega
theorem limb_wrap {q : Int} (h : 0 ≤ q ∧ q < 4294967296) (k : Nat) (hk : k < 2) : IntKind.u64.wrap (q * 2 ^ (32 * k)) = q * 2 ^ (32 * k) := by
  rw [w64]
  rcases (show k = 0 ∨ k = 1 by omega) with rfl | rfl
  · simp only [Nat.mul_zero, Int.pow_zero, Int.mul_one]; omega
  · rw [show (2 : Int) ^ (32 * 1) = 4294967296 by decide]; omega
theorem toIntNone_c (x : Int) (w : World) (hx : 0 ≤ x ∧ x ≤ 18446744073709551615) (ex : F.exq x = 2047) (hT : TabD w) : Calls Tryd.prog 37 #[.int .u64 x] w (DC.RetB w (.tuple #[.int .i64 0, .int .i64 4])) := by
  have D := Lib.hid (Below.refl w.heap.size w)
  have eo : OfD x = ⟨4, dz⟩ := by unfold OfD; rw [if_pos ex]
  have OF := Lib.hid (Of_d x hx.1 hx.2 w hT)
  rw [eo] at OF
  clear eo ex hx hT
  go_enter Tryd.func37, Tryd.ntmps37
  go_wp2_with (go_at_call 33; (with_reducible refine (OF.out).mono ?_); rintro e w2 ⟨b2, A2, n2, c2, x2, rfl, hv, hb⟩; have s := hb.alloc hb.size (.cells #[.bool b2, .slice A2 n2 c2, .int .i64 x2] 51); have D := Lib.hid (D.out.trans (s.mono D.out.size)); clear hv hb s)
  go_ret2
  exact ⟨rfl, D.out⟩
set_option maxHeartbeats 8000000 in
theorem toInt_c (x n : Int) (w : World) (hf : fi x) (hn : val x = n * sc 1 0) (hT : TabD w) : Calls Tryd.prog 37 #[.int .u64 x] w (DC.RetB w (.tuple #[.int .i64 (tI n).1, .int .i64 (tI n).2])) := by
  have HT : Hid (∀ W : World, Below w.heap.size w W → TabD W) := fun W hW => hT.below hW
  have D := Lib.hid (Below.refl w.heap.size w)
  have e0 := (of_fit hf).1
  obtain ⟨s, s0, s1, s2, s3, x0, x1⟩ := size_of hf hn
  have be : erz s = 0 := if_pos s1
  have bs : s < big3 := Int.lt_of_lt_of_le s1 (by unfold big3; exact pow_mono (by decide))
  have OF := Lib.hid (Of_d x hf.1 hf.2.1 w hT)
  have SH : Hid (∀ (W : World) (b : Bool) (A : Option Addr) (n' c : Nat), Below w.heap.size w W → GV W b A n' c (OfD x).d.x (OfD x).d → ∃ bl, Calls Tryd.prog 73 #[.slice A n' c, .int .i64 (OfD x).d.x] W (RetSh W 0 s bl)) := fun W b A n' c hW h => by
    have := sh_any h.pv (OfD x).d.x (by omega) (by omega) (HT.out W hW)
    have e : shq ((OfD x).d.m.natAbs : Int) (OfD x).d.x = s := by unfold shq; rw [if_pos x0]; exact s2
    rwa [e] at this
  obtain ⟨P, hP⟩ : ∃ P, P = topI (decide ((OfD x).d.m < 0)) := ⟨_, rfl⟩
  have p0 : 0 ≤ P ∧ P < 18446744073709551616 := by rw [hP]; unfold topI; split <;> omega
  obtain ⟨ps, pe⟩ := big3_small (a := P) (by omega)
  have NO : Hid (∀ W, Calls Tryd.prog 39 #[.int .u64 P] W (NC.RetV W P)) := fun W => NC.Of_c P W p0
  have CM : Hid (∀ (W : World) (u v : Value), NV W u s → NV W v P → Calls Tryd.prog 74 #[u, v] W (NC.RetQ W (.tuple #[.int .i64 (cmpv s P), .int .i64 0]))) := fun W u v k1 k2 => by
    have k1 := k1.pv bs
    have k2 := k2.pv ps
    rw [be] at k1
    rw [pe] at k2
    have := Cmp_p k1 k2
    rw [show ee 0 0 = 0 from rfl, if_pos rfl] at this
    exact this
  have GT : Hid (P < s → tI n = (0, 4)) := fun h => tI_out (by rw [← hP]; exact h) n s3
  have LE : Hid (s ≤ P → tI n = (n, 0)) := fun h => tI_in s0 (by rw [← hP]; exact h) n s3
  have hd : (decide ((OfD x).d.m < 0) = true ∧ P = 9223372036854775808 ∧ n = -s) ∨ (decide ((OfD x).d.m < 0) = false ∧ P = 9223372036854775807 ∧ n = s) := by
    cases q : decide ((OfD x).d.m < 0)
    · rw [q] at hP s3; exact .inr ⟨rfl, hP, by rw [s3]; unfold sgm; simp⟩
    · rw [q] at hP s3; exact .inl ⟨rfl, hP, by rw [s3]; unfold sgm; simp⟩
  generalize OfD x = r at *
  obtain ⟨re, rd⟩ := r
  dsimp only at e0 hd SH
  subst e0
  have P63 : P ≤ 9223372036854775808 := by omega
  clear hP p0 ps pe be bs s1 s2 s3 x0 x1 hn hf hT
  obtain ⟨k, hk⟩ : ∃ k, k = cmpv s P := ⟨_, rfl⟩
  rw [← hk] at CM
  rcases Int.lt_or_le P s with hc | hc
  · rw [GT.out hc]
    have k1 : k = 1 := by rw [hk]; exact Z.cmpv_gt hc
    subst k1
    dsimp only
    clear hc hk GT LE P63 s0
    rcases hd with ⟨hd, rfl, -⟩ | ⟨hd, rfl, -⟩
    all_goals (
      go_enter Tryd.func37, Tryd.ntmps37
      go_wp2_with (first
        | (go_at_call 33; (with_reducible refine (OF.out).mono ?_); rintro e w2 ⟨b2, A2, n2, c2, x2, rfl, hv, hb⟩; obtain rfl := hv.2.2.1; have s' := hb.alloc hb.size (.cells #[.bool b2, .slice A2 n2 c2, .int .i64 rd.x] 51); have Xa := BD.new hv.dv; have D := Lib.hid (D.out.trans (s'.mono D.out.size)); have hb2 := hv.2.1.trans hd; have hv := hv.below (al1 w2 (.cells #[.bool b2, .slice A2 n2 c2, .int .i64 rd.x] 51)); obtain ⟨bl, SA⟩ := SH.out _ _ _ _ _ D.out hv; have SA := Lib.hid SA; obtain rfl := hb2; have Xa := Xa.bx; clear hb s' hv)
        | (go_at_call 73; (with_reducible refine (SA.out).mono ?_); rintro e w3 ⟨A3, n3, c3, rfl, nv, hb⟩; have Xa := Xa.below hb; obtain ⟨y0, y1, y2⟩ := id Xa; have D := Lib.hid (D.out.trans (hb.mono D.out.size)); clear hb)
        | (go_at_call 39; (with_reducible refine (NO.out _).mono ?_); rintro e w4 ⟨A4, n4, c4, rfl, np, hb⟩; have nv := nv.below hb; have Xa := Xa.below hb; have D := Lib.hid (D.out.trans (hb.mono D.out.size)); clear hb)
        | (go_at_call 74; (with_reducible refine (CM.out _ _ _ nv np).mono ?_); rintro e w5 ⟨rfl, k3, rfl⟩; have hb := bdn' w4 k3; have D := Lib.hid (D.out.trans (hb.mono D.out.size)); clear hb))
      go_ret2
      exact ⟨rfl, D.out⟩)
  · rw [LE.out hc]
    have l1 : ¬ k > 0 := by rw [hk]; rcases cmpv_3 s P with ⟨h, _⟩ | ⟨h, _⟩ | ⟨h, h2⟩ <;> omega
    dsimp only
    clear hk GT LE P63
    have HC := Lib.hid hc
    have S0 := Lib.hid s0
    clear hc s0
    rcases hd with ⟨hd, rfl, rfl⟩ | ⟨hd, rfl, rfl⟩
    all_goals (
      go_enter Tryd.func37, Tryd.ntmps37
      go_wp2_with (first
        | (go_at_call 33; (with_reducible refine (OF.out).mono ?_); rintro e w2 ⟨b2, A2, n2, c2, x2, rfl, hv, hb⟩; obtain rfl := hv.2.2.1; have s' := hb.alloc hb.size (.cells #[.bool b2, .slice A2 n2 c2, .int .i64 rd.x] 51); have Xa := BD.new hv.dv; have D := Lib.hid (D.out.trans (s'.mono D.out.size)); have hb2 := hv.2.1.trans hd; have hv := hv.below (al1 w2 (.cells #[.bool b2, .slice A2 n2 c2, .int .i64 rd.x] 51)); obtain ⟨bl, SA⟩ := SH.out _ _ _ _ _ D.out hv; have SA := Lib.hid SA; obtain rfl := hb2; have Xa := Xa.bx; clear hb s' hv)
        | (go_at_call 73; (with_reducible refine (SA.out).mono ?_); rintro e w3 ⟨A3, n3, c3, rfl, nv, hb⟩; have Xa := Xa.below hb; obtain ⟨y0, y1, y2⟩ := id Xa; have D := Lib.hid (D.out.trans (hb.mono D.out.size)); clear hb)
        | (go_at_call 39; (with_reducible refine (NO.out _).mono ?_); rintro e w4 ⟨A4, n4, c4, rfl, np, hb⟩; have nv := nv.below hb; have Xa := Xa.below hb; have D := Lib.hid (D.out.trans (hb.mono D.out.size)); clear hb y0 y1 y2)
        | (go_at_call 74; (with_reducible refine (CM.out _ _ _ nv np).mono ?_); rintro e w5 ⟨rfl, k3, hw⟩; have hb := bdn' w4 k3; rw [← hw] at hb; have nv := nv.below hb; have Xa := Xa.below hb; obtain ⟨y0, y1, y2⟩ := id Xa; have D := Lib.hid (D.out.trans (hb.mono D.out.size)); clear hb hw np))
      obtain ⟨L, hs, hl, hz, hv⟩ := nv
      obtain ⟨en, hcap⟩ := hs.len_
      have hL2 : n3 ≤ 2 := by rw [en]; exact two_limbs hl hz (by rw [hv]; have := HC.out; omega)
      have HS := Lib.hid hs
      have LL := Lib.hid hl
      have EX := Lib.hid en
      have HV := Lib.hid hv
      clear hs hl hz hv en hcap OF SH NO CM SA HT hd
      go_loop [12, 47] (fun nv iv => ∃ (i : Nat) (z : Int), i ≤ n3 ∧ iv = .int .i64 i ∧ nv = .int .u64 z ∧ Hid (z = lv (L.take i))) (fun _ iv => n3 - (intOf iv).toNat)
      case atStart => exact ⟨0, 0, by omega, rfl, rfl, by show _ = _; simp [lv]⟩
      case round =>
        obtain ⟨i, z, hi, rfl, rfl, hz⟩ := hrel
        by_cases hix : i < n3
        · obtain ⟨ad, c', e, hc', hb, hcell⟩ := HS.out.at_ i (by rw [← EX.out]; exact hix)
          injection e with e1 e2 e3
          subst e1
          clear e2 e3 hc' c' hb
          obtain ⟨q, hq⟩ : ∃ q, L.getD i 0 = q := ⟨_, rfl⟩
          have bq := LL.out.at_ i
          rw [hq] at hcell bq
          have st := Lib.hid (limb_step LL.out i (by omega) q hq)
          clear hq
          go_wp2
          go_round
          case rel => exact ⟨i + 1, _, by omega, by simp, rfl, by show _ = _; rw [limb_wrap bq i (by omega), hz.out]; exact st.out⟩
          case measure => simp [intOf]; omega
        · obtain rfl : n3 = i := by omega
          have hzs := Lib.hid (hz.out.trans ((lv_take_all (Nat.le_of_eq EX.out.symm)).trans HV.out))
          go_wp2
          go_ret2
          first
            | exact ⟨by rw [hzs.out, neg_i64 S0.out HC.out]; rfl, D.out⟩
            | exact ⟨by rw [hzs.out, pos_i64 S0.out HC.out]; rfl, D.out⟩)
theorem Int_c (x mode : Int) (w : World) (hx : 0 ≤ x ∧ x ≤ 18446744073709551615) (hT : TabD w) : Calls Tryd.prog 8 #[.int .u64 x, .int .i64 mode] w (DC.RetB w (ItV (IT x mode))) := by
  have HT : Hid (∀ W : World, Below w.heap.size w W → TabD W) := fun W hW => hT.below hW
  have D := Lib.hid (Below.refl w.heap.size w)
  have RO := Lib.hid (Round_c x mode w hx hT)
  by_cases hm : 0 ≤ mode ∧ mode ≤ 4
  · by_cases h5 : F.cls x = 5 ∨ F.cls x = 4
    · have e : IT x mode = (0, false, 4) := by unfold IT; rw [if_neg (by omega), if_pos h5]
      obtain ⟨y, hy, ey, er⟩ : ∃ y, (0 ≤ y ∧ y ≤ 18446744073709551615) ∧ F.exq y = 2047 ∧ WT x mode = (y, false, 0) := by
        rcases h5 with h | h
        · exact ⟨9221120237041090560, by omega, by decide, by unfold WT; rw [if_neg (by omega), if_pos h]⟩
        · refine ⟨x, hx, ?_, by unfold WT; rw [if_neg (by omega), if_neg (by omega), if_pos h]⟩
          rcases Classical.em (F.exq x = 2047) with q | q
          · exact q
          · have := cls_fi.2 q; omega
      have TI : Hid (∀ W, Below w.heap.size w W → Calls Tryd.prog 37 #[.int .u64 y] W (DC.RetB W (.tuple #[.int .i64 0, .int .i64 4]))) := fun W hW => toIntNone_c y W hy ey (HT.out W hW)
      rw [er] at RO
      rw [e]
      unfold ATv at RO
      unfold ItV
      dsimp only at RO ⊢
      clear e er ey hy h5 hm hx hT
      go_enter Tryd.func8, Tryd.ntmps8
      go_wp2_with (first
        | (go_at_call 7; (with_reducible refine (RO.out).mono ?_); rintro e w1 ⟨rfl, hb⟩; have D := Lib.hid (D.out.trans (hb.mono D.out.size)); clear hb)
        | (go_at_call 37; (with_reducible refine (TI.out _ D.out).mono ?_); rintro e w2 ⟨rfl, hb⟩; have D := Lib.hid (D.out.trans (hb.mono D.out.size)); clear hb))
      go_ret3
      exact ⟨rfl, D.out⟩
    · have h5 : F.cls x ≠ 5 ∧ F.cls x ≠ 4 := ⟨fun h => h5 (.inl h), fun h => h5 (.inr h)⟩
      have hf : fi x := (fi_cls hx).2 h5
      have er : WT x mode = (WX x mode, lostW x, 0) := by unfold WT; rw [if_neg (by omega), if_neg h5.1, if_neg h5.2]
      have ef := wx_fi hf hm
      have e : IT x mode = ((tI (wn x mode)).1, (if (tI (wn x mode)).2 = 0 then lostW x else false), (tI (wn x mode)).2) := by
        unfold IT tI
        rw [if_neg (by omega), if_neg (by omega)]
        split <;> rfl
      have TI : Hid (∀ W, Below w.heap.size w W → Calls Tryd.prog 37 #[.int .u64 (WX x mode)] W (DC.RetB W (.tuple #[.int .i64 (tI (wn x mode)).1, .int .i64 (tI (wn x mode)).2]))) := fun W hW => toInt_c _ _ W ef.1 ef.2.1 (HT.out W hW)
      have ht : ((tI (wn x mode)).2 = 0) ∨ ((tI (wn x mode)).2 = 4 ∧ (tI (wn x mode)).1 = 0) := by
        unfold tI
        split
        · exact .inl rfl
        · exact .inr ⟨rfl, rfl⟩
      rw [er] at RO
      rw [e]
      unfold ATv at RO
      unfold ItV
      generalize tI (wn x mode) = t at *
      obtain ⟨t1, t2⟩ := t
      dsimp only at RO TI ht ⊢
      generalize WX x mode = y at *
      generalize lostW x = l at *
      clear e er ef hf h5 hm hx hT
      rcases ht with rfl | ⟨rfl, rfl⟩
      all_goals (
        go_enter Tryd.func8, Tryd.ntmps8
        go_wp2_with (first
          | (go_at_call 7; (with_reducible refine (RO.out).mono ?_); rintro e w1 ⟨rfl, hb⟩; have D := Lib.hid (D.out.trans (hb.mono D.out.size)); clear hb)
          | (go_at_call 37; (with_reducible refine (TI.out _ D.out).mono ?_); rintro e w2 ⟨rfl, hb⟩; have D := Lib.hid (D.out.trans (hb.mono D.out.size)); clear hb))
        go_ret3
        exact ⟨rfl, D.out⟩)
  · have e : IT x mode = (0, false, 1) := by unfold IT; rw [if_pos hm]
    have er : WT x mode = (0, false, 1) := by unfold WT; rw [if_pos hm]
    rw [er] at RO
    rw [e]
    unfold ATv at RO
    unfold ItV
    dsimp only at RO ⊢
    clear e er hm hx hT
    go_enter Tryd.func8, Tryd.ntmps8
    go_wp2_with (go_at_call 7; (with_reducible refine (RO.out).mono ?_); rintro e w1 ⟨rfl, hb⟩; have D := Lib.hid (D.out.trans (hb.mono D.out.size)); clear hb)
    go_ret3
    exact ⟨rfl, D.out⟩
theorem From_c (n mode : Int) (w : World) (hn : -9223372036854775808 ≤ n ∧ n ≤ 9223372036854775807) (hT : TabD w) : Calls Tryd.prog 9 #[.int .i64 n, .int .i64 mode] w (DC.RetB w (ATv (FT n mode))) := by
  have HT : Hid (∀ W : World, Below w.heap.size w W → TabD W) := fun W hW => hT.below hW
  have D := Lib.hid (Below.refl w.heap.size w)
  obtain ⟨e0, g, hS⟩ := int_fin hn
  have e : FT n mode = (TX (fin n 0).d mode, TL (fin n 0).d mode, TE (fin n 0).d mode) := by
    have h0 := g.1
    unfold FT TE
    rw [if_neg (c := (fin n 0).d.er ≠ 0) (by simpa using h0)]
    by_cases hm : 0 ≤ mode ∧ mode ≤ 4
    · rw [if_neg (by omega), if_pos hm]
    · rw [if_pos hm, if_neg hm]
      unfold TX TL
      rw [if_neg (fun h => hm h.2), if_neg (fun h => hm h.2)]
  obtain ⟨a, ha⟩ : ∃ a : Int, a = n.natAbs := ⟨_, rfl⟩
  obtain ⟨bs, be⟩ := big3_small (a := a) (by omega)
  have NO : Hid (∀ W, Calls Tryd.prog 39 #[.int .u64 a] W (NC.RetV W a)) := fun W => NC.Of_c a W (by omega)
  have MK : Hid (∀ W A n' c, Below w.heap.size w W → NV W (.slice A n' c) a → Calls Tryd.prog 38 #[.bool (decide (n < 0)), .slice A n' c, .int .i64 0] W (RetD W (fin n 0))) := fun W A n' c hW h => by
    have := Make_d (decide (n < 0)) A n' c (erz a) a 0 W (h.pv bs) (HT.out W hW)
    rw [be] at this
    unfold Mk at this
    rw [if_neg (by omega), if_neg (by omega)] at this
    have e9 : sgm (decide (n < 0)) a = n := by
      by_cases q : n < 0
      · rw [decide_eq_true q]; unfold sgm; simp; omega
      · rw [decide_eq_false q]; unfold sgm; simp; omega
    rwa [e9] at this
  have TO : Hid (∀ (W : World) (u : Value), Below w.heap.size w W → DV W u (fin n 0).d → Calls Tryd.prog 36 #[u, .int .i64 mode] W (DC.RetB W (.tuple #[.int .u64 (TX (fin n 0).d mode), .bool (TL (fin n 0).d mode), .int .i64 (TE (fin n 0).d mode)]))) := fun W u hW hu => To_d u _ mode W hu (HT.out W hW)
  rw [e]
  unfold ATv
  dsimp only
  generalize TX (fin n 0).d mode = y at *
  generalize TL (fin n 0).d mode = l at *
  generalize TE (fin n 0).d mode = er at *
  generalize fin n 0 = r at *
  clear e e0 g hS bs be hT
  by_cases q : n < 0
  · have i1 : IntKind.u64.wrap n = n + 18446744073709551616 := by rw [w64]; omega
    have i2 : IntKind.u64.wrap (-(n + 18446744073709551616)) = a := by rw [w64]; omega
    rw [decide_eq_true q] at MK
    clear ha hn
    go_enter Tryd.func9, Tryd.ntmps9
    go_wp2_with (first
      | (go_at_call 39; (with_reducible refine (NO.out _).mono ?_); rintro e w1 ⟨A1, n1, c1, rfl, hv1, hb⟩; have D := Lib.hid (D.out.trans (hb.mono D.out.size)); clear hb)
      | (go_at_call 38; (with_reducible refine (MK.out _ _ _ _ D.out hv1).mono ?_); rintro e w2 ⟨b2, A2, n2, c2, x2, rfl, hv, hb⟩; have s := hb.alloc hb.size (.cells #[.bool b2, .slice A2 n2 c2, .int .i64 x2] 51); have Xa := BD.new hv.dv; have D := Lib.hid (D.out.trans (s.mono D.out.size)); clear hv hb s)
      | (go_at_call 36; (with_reducible refine (TO.out _ _ D.out Xa.dv).mono ?_); rintro e w4 ⟨rfl, hb⟩; have D := Lib.hid (D.out.trans (hb.mono D.out.size)); clear hb))
    go_ret3
    exact ⟨rfl, D.out⟩
  · have i1 : IntKind.u64.wrap n = a := by rw [w64]; omega
    rw [decide_eq_false q] at MK
    clear ha hn
    go_enter Tryd.func9, Tryd.ntmps9
    go_wp2_with (first
      | (go_at_call 39; (with_reducible refine (NO.out _).mono ?_); rintro e w1 ⟨A1, n1, c1, rfl, hv1, hb⟩; have D := Lib.hid (D.out.trans (hb.mono D.out.size)); clear hb)
      | (go_at_call 38; (with_reducible refine (MK.out _ _ _ _ D.out hv1).mono ?_); rintro e w2 ⟨b2, A2, n2, c2, x2, rfl, hv, hb⟩; have s := hb.alloc hb.size (.cells #[.bool b2, .slice A2 n2 c2, .int .i64 x2] 51); have Xa := BD.new hv.dv; have D := Lib.hid (D.out.trans (s.mono D.out.size)); clear hv hb s)
      | (go_at_call 36; (with_reducible refine (TO.out _ _ D.out Xa.dv).mono ?_); rintro e w4 ⟨rfl, hb⟩; have D := Lib.hid (D.out.trans (hb.mono D.out.size)); clear hb))
    go_ret3
    exact ⟨rfl, D.out⟩
end IC
end Go.Proofs.YtpmpkllpaceloaaDoor
