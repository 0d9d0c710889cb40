/-
  Texts glued together for a claim: X8 X9 X11.
-/
import Derived.Test.YtelblhgagpkjmaaDoorE18
import Derived.Test.YtelblhgagpkjmaaDoorE17
import Derived.Test.YtelblhgagpkjmaaDoorE11
/-
  Package exact, pure: what the laws ask of TwoSum, FastSum, TwoProd and Split.
-/
namespace Go.Proofs.YtelblhgagpkjmaaDoor
set_option linter.unusedVariables false
set_option linter.unusedSimpArgs false
open Go.RowKit
set_option linter.unusedVariables false
set_option linter.unusedSimpArgs false
namespace XC
open L NC NK DC RC SC PC QC IC
open Z (cmpv)
end XC
end Go.Proofs.YtelblhgagpkjmaaDoor

/-
  Package exact, the laws' helpers: far, bothSame.
-/
namespace Go.Proofs.YtelblhgagpkjmaaDoor
set_option linter.unusedVariables false
set_option linter.unusedSimpArgs false
open Go.RowKit
set_option linter.unusedVariables false
set_option linter.unusedSimpArgs false
namespace XC
open L NC NK DC RC SC PC QC IC
open Z (cmpv)
theorem far_exp {x : Int} (h0 : 0 ≤ x) (h1 : x ≤ 18446744073709551615) : x * 2 % 18446744073709551616 / 9007199254740992 = F.exq x := by
  unfold F.exq; omega
/-- one is not below 2^900 -/
def fara (L : List Int) : Bool := L.any fun x => decide (1923 ≤ F.exq x)
theorem w64x (z : Int) : IntKind.u64.wrap z = z % 18446744073709551616 := by first | rfl | (unfold IntKind.wrap; simp [IntKind.bits, IntKind.signed])
theorem far_c (v : Value) (l : List Int) (w : World) (hs : Sl .u64 w v l) (hu : u64s l) (hl : l.length ≤ 1000000) :
    Calls Tryd.prog 21 #[v] w fun e w' => e = .returned (.bool (fara l)) ∧ w = w' := by
  obtain ⟨A, c, rfl, hc⟩ := hs.form
  have HS := Lib.hid hs
  have HU := Lib.hid hu
  obtain ⟨n, en⟩ : ∃ n, l.length = n := ⟨_, rfl⟩
  obtain ⟨r, hr⟩ : ∃ r, r = fara l := ⟨_, rfl⟩
  rw [← hr]
  rw [en] at hc hl HS ⊢
  have EN := Lib.hid en
  have HR := Lib.hid hr
  clear hs hu en hr
  go_enter Tryd.func21, Tryd.ntmps21
  go_wp2
  go_loop [7] (fun i => ∃ k : Nat, k ≤ n ∧ i = .int .i64 k ∧ Hid (fara (l.take k) = false)) (fun i => n - (intOf i).toNat)
  case atStart => exact ⟨0, by omega, rfl, by show _ = _; simp [fara]⟩
  case round =>
    obtain ⟨k, hk, rfl, hz⟩ := hrel
    by_cases hkx : k < n
    · obtain ⟨ad, c', e, hc', hb, hcell⟩ := HS.out.at_ k (by rw [EN.out]; exact hkx)
      injection e with e1 e2 e3
      subst e1
      clear e2 e3 hc' c' hb
      obtain ⟨q, hq⟩ : ∃ q, l.getD k 0 = q := ⟨_, rfl⟩
      have hm : q ∈ l := by
        rw [← hq, List.getD_eq_getElem?_getD, List.getElem?_eq_getElem (by rw [EN.out]; exact hkx)]
        exact List.getElem_mem _
      have bq := HU.out q hm
      rw [hq] at hcell
      have hx := far_exp bq.1 bq.2
      have ht : fara (l.take (k + 1)) = (fara (l.take k) || decide (1923 ≤ F.exq q)) := by
        unfold fara
        rw [List.take_add_one, List.any_append, List.getElem?_eq_getElem (by rw [EN.out]; exact hkx)]
        have : l[k]'(by rw [EN.out]; exact hkx) = q := by
          rw [← hq, List.getD_eq_getElem?_getD, List.getElem?_eq_getElem (by rw [EN.out]; exact hkx)]; rfl
        simp [this]
      rw [hz.out, Bool.false_or] at ht
      have HT := Lib.hid ht
      have E := F.exq_bd q
      have hw : IntKind.u64.wrap (q * 2) = q * 2 % 18446744073709551616 := w64x _
      clear hq ht
      by_cases h0 : 1923 ≤ F.exq q
      · have hr2 : Hid (r = true) := by
          show _ = _
          rw [HR.out]
          unfold fara
          rw [List.any_eq_true]
          exact ⟨q, hm, decide_eq_true h0⟩
        obtain ⟨x, hx2⟩ : ∃ x, F.exq q = x := ⟨_, rfl⟩
        rw [hx2] at hx h0 E
        clear hx2 HT hm
        go_wp2
        go_ret
        exact ⟨by rw [hr2.out]; rfl, rfl⟩
      · have HZ2 : Hid (fara (l.take (k + 1)) = false) := by show _ = _; rw [HT.out, decide_eq_false h0]
        obtain ⟨x, hx2⟩ : ∃ x, F.exq q = x := ⟨_, rfl⟩
        rw [hx2] at hx h0 E
        clear hx2 HT hm
        go_wp2
        go_round
        case rel => exact ⟨k + 1, by omega, by simp, HZ2.out⟩
        case measure => simp [intOf]; omega
    · obtain rfl : n = k := by omega
      have hr2 : Hid (r = false) := by
        show _ = _
        rw [HR.out, ← hz.out, List.take_of_length_le (Nat.le_of_eq EN.out)]
      go_wp2
      go_ret
      exact ⟨by rw [hr2.out]; rfl, rfl⟩
theorem far2 (W : World) (x y : Int) (hx : 0 ≤ x ∧ x ≤ 18446744073709551615) (hy : 0 ≤ y ∧ y ≤ 18446744073709551615) (o : Bool) (ho : fara [x, y] = o) :
    Calls Tryd.prog 21 #[.slice (some ⟨W.heap.size, 0, none⟩) 2 2] (W.alloc (.cells #[.int .u64 x, .int .u64 y] 22)) fun e w' => e = .returned (.bool o) ∧ W.alloc (.cells #[.int .u64 x, .int .u64 y] 22) = w' := by
  have hs : Sl .u64 (W.alloc (.cells #[.int .u64 x, .int .u64 y] 22)) (.slice (some ⟨W.heap.size, 0, none⟩) 2 2) [x, y] := Row.sl (L := [x, y]) (Blk.new W 22 #[.int .u64 x, .int .u64 y]) 2 (by simp)
  rw [← ho]
  exact far_c _ [x, y] _ hs (u2 hx hy) (by simp)
/-- four boxes made at a call -/
theorem box4 (w : World) (ba bb bc bd : Bool) (Aa Ab Ac Ad : Option Addr) (na ca nb cb nc cc nd cd : Nat) (xa xb xc xd : Int) :
    ∃ W0, (((w.alloc (.cells #[.bool ba, .slice Aa na ca, .int .i64 xa] 43)).alloc (.cells #[.bool bb, .slice Ab nb cb, .int .i64 xb] 43)).alloc (.cells #[.bool bc, .slice Ac nc cc, .int .i64 xc] 43)).alloc (.cells #[.bool bd, .slice Ad nd cd, .int .i64 xd] 43) = W0 ∧ Below w.heap.size w W0 ∧
    BX W0 w.heap.size ba Aa na ca xa ∧ BX W0 (w.heap.size + 1) bb Ab nb cb xb ∧ BX W0 (w.heap.size + 2) bc Ac nc cc xc ∧ BX W0 (w.heap.size + 3) bd Ad nd cd xd := by
  have A1 := al1 w (.cells #[.bool ba, .slice Aa na ca, .int .i64 xa] 43)
  have X1 := BX.new w ba Aa na ca xa
  obtain ⟨w1, hw1⟩ : ∃ w1, w.alloc (.cells #[.bool ba, .slice Aa na ca, .int .i64 xa] 43) = w1 := ⟨_, rfl⟩
  have z1 : w1.heap.size = w.heap.size + 1 := by rw [← hw1]; simp
  rw [hw1] at A1 X1 ⊢
  have A2 := al1 w1 (.cells #[.bool bb, .slice Ab nb cb, .int .i64 xb] 43)
  have X2 := BX.new w1 bb Ab nb cb xb
  obtain ⟨w2, hw2⟩ : ∃ w2, w1.alloc (.cells #[.bool bb, .slice Ab nb cb, .int .i64 xb] 43) = w2 := ⟨_, rfl⟩
  have z2 : w2.heap.size = w.heap.size + 2 := by rw [← hw2]; simp; omega
  rw [hw2] at A2 X2 ⊢
  have A3 := al1 w2 (.cells #[.bool bc, .slice Ac nc cc, .int .i64 xc] 43)
  have X3 := BX.new w2 bc Ac nc cc xc
  obtain ⟨w3, hw3⟩ : ∃ w3, w2.alloc (.cells #[.bool bc, .slice Ac nc cc, .int .i64 xc] 43) = w3 := ⟨_, rfl⟩
  have z3 : w3.heap.size = w.heap.size + 3 := by rw [← hw3]; simp; omega
  rw [hw3] at A3 X3 ⊢
  have A4 := al1 w3 (.cells #[.bool bd, .slice Ad nd cd, .int .i64 xd] 43)
  have X4 := BX.new w3 bd Ad nd cd xd
  obtain ⟨w4, hw4⟩ : ∃ w4, w3.alloc (.cells #[.bool bd, .slice Ad nd cd, .int .i64 xd] 43) = w4 := ⟨_, rfl⟩
  rw [hw4] at A4 X4 ⊢
  rw [z1] at X2
  rw [z2] at X3
  rw [z3] at X4
  have B4 := A4
  have B3 := A3.trans (A4.mono A3.size)
  have B2 := A2.trans (B3.mono A2.size)
  have B1 := A1.trans (B2.mono A1.size)
  have k1 : w.heap.size < w1.heap.size := by omega
  have k2 : w.heap.size + 1 < w2.heap.size := by omega
  have k3 : w.heap.size + 2 < w3.heap.size := by omega
  have get : ∀ {u u' : World} {g : Nat} {b A n c x}, BX u g b A n c x → Below u.heap.size u u' → g < u.heap.size → BX u' g b A n c x := fun h hb _ => h.below hb
  exact ⟨w4, rfl, B1, get X1 B2 k1, get X2 B3 k2, get X3 B4 k3, X4⟩
set_option maxHeartbeats 4000000 in
theorem bothSame_c (ua ub uc ud : Value) (a b c d : Dy) (w : World) (ha : DV w ua a) (hb' : DV w ub b) (hc : DV w uc c) (hd : DV w ud d) (hT : TabD w)
    (h1 : (DC.Add a b).e = 0) (h2 : (DC.Add c d).e = 0) (h3 : (DC.Add a b).d = (DC.Add c d).d) (h4 : Ok (DC.Add a b).d) :
    Calls Tryd.prog 23 #[ua, ub, uc, ud] w fun e w' => e = .returned (.bool true) ∧ Below w.heap.size w w' := by
  have H1 := ha
  have H2 := hb'
  have H3 := hc
  have H4 := hd
  obtain ⟨ba, Aa, na, ca, xa, la, rfl, -⟩ := H1
  obtain ⟨bb, Ab, nb, cb, xb, lb, rfl, -⟩ := H2
  obtain ⟨bc, Ac, nc, cc, xc, lc, rfl, -⟩ := H3
  obtain ⟨bd, Ad, nd, cd, xd, ld, rfl, -⟩ := H4
  obtain ⟨W0, hW0, D0, Y1, Y2, Y3, Y4⟩ := box4 w ba bb bc bd Aa Ab Ac Ad na ca nb cb nc cc nd cd xa xb xc xd
  have Xa : BD W0 w.heap.size ba Aa na ca xa a := ⟨Y1, ha.below D0⟩
  have Xb : BD W0 (w.heap.size + 1) bb Ab nb cb xb b := ⟨Y2, hb'.below D0⟩
  have Xc : BD W0 (w.heap.size + 2) bc Ac nc cc xc c := ⟨Y3, hc.below D0⟩
  have Xd : BD W0 (w.heap.size + 3) bd Ad nd cd xd d := ⟨Y4, hd.below D0⟩
  have HT : Hid (∀ W : World, Below W0.heap.size W0 W → TabD W) := fun W hW => (hT.below D0).below hW
  have HW0 := Lib.hid hW0
  have D := Lib.hid (Below.refl W0.heap.size W0)
  have D0 := Lib.hid D0
  have C1 : Hid (∀ (W : World) (u v : Value), Below W0.heap.size W0 W → DV W u a → DV W v b → Calls Tryd.prog 51 #[u, v] W (RetD W (DC.Add a b))) := fun W u v hW hu hv => Add_d u v a b W hu hv (HT.out W hW)
  have C2 : Hid (∀ (W : World) (u v : Value), Below W0.heap.size W0 W → DV W u c → DV W v d → Calls Tryd.prog 51 #[u, v] W (RetD W (DC.Add c d))) := fun W u v hW hu hv => Add_d u v c d W hu hv (HT.out W hW)
  obtain ⟨r1, hr1⟩ : ∃ r, r = DC.Add a b := ⟨_, rfl⟩
  obtain ⟨r2, hr2⟩ : ∃ r, r = DC.Add c d := ⟨_, rfl⟩
  rw [← hr1] at C1 h1 h3 h4
  rw [← hr2] at C2 h2 h3
  obtain ⟨e1, d1⟩ := r1
  obtain ⟨e2, d2⟩ := r2
  dsimp only at h1 h2 h3 h4
  subst h1 h2 h3
  have OK := Lib.hid h4
  have O2 : Hid (∀ (W : World) (ob : Obj), Calls Tryd.prog 22 #[.slice (some ⟨W.heap.size + 1, 0, none⟩) 2 2] ((W.alloc ob).alloc (.cells #[.int .i64 0, .int .i64 0] 23)) fun e w' => e = .returned (.bool true) ∧ (W.alloc ob).alloc (.cells #[.int .i64 0, .int .i64 0] 23) = w') := fun W ob => by
    have := RC.ok2' (W.alloc ob) 0 0 true rfl
    rwa [show (W.alloc ob).heap.size = W.heap.size + 1 by simp] at this
  clear hr1 hr2 h4 hW0 ha hb' hc hd hT Y1 Y2 Y3 Y4
  go_enter Tryd.func23, Tryd.ntmps23
  go_wp2_with (first
    | (go_at_call 51; rw [HW0.out]; (with_reducible refine (C1.out _ _ _ D.out Xa.dv Xb.dv).mono ?_); rintro e w1 ⟨b1, A1, n1, c1, x1, rfl, hv, hb⟩; have s := hb.alloc hb.size (.cells #[.bool b1, .slice A1 n1 c1, .int .i64 x1] 43); have Xc := Xc.below s; have Xd := Xd.below s; have Xp := BD.new hv.dv; have D := Lib.hid (D.out.trans (s.mono D.out.size)); clear hv hb s; obtain ⟨c_0, c_1, c_2⟩ := Xc.bx; obtain ⟨d_0, d_1, d_2⟩ := Xd.bx)
    | (go_at_call 51; (with_reducible refine (C2.out _ _ _ D.out Xc.dv Xd.dv).mono ?_); rintro e w2 ⟨b2, A2, n2, c2, x2, rfl, hv, hb⟩; have s := hb.alloc hb.size (.cells #[.bool b2, .slice A2 n2 c2, .int .i64 x2] 43); have Xp := Xp.below s; have Xq := BD.new hv.dv; have D := Lib.hid (D.out.trans (s.mono D.out.size)); clear hv hb s)
    | (go_at_call 22; (with_reducible refine (O2.out w2 (.cells #[.bool b2, .slice A2 n2 c2, .int .i64 x2] 43)).mono ?_); rintro e w3 ⟨rfl, hw⟩; have s := al1 (w2.alloc (.cells #[.bool b2, .slice A2 n2 c2, .int .i64 x2] 43)) (.cells #[.int .i64 0, .int .i64 0] 23); rw [hw] at s; clear hw; have Xp := Xp.below s; have Xq := Xq.below s; have D := Lib.hid (D.out.trans (s.mono D.out.size)); clear s; obtain ⟨p_0, p_1, p_2⟩ := Xp.bx; obtain ⟨q_0, q_1, q_2⟩ := Xq.bx)
    | (go_at_call 25; (with_reducible refine (same_true Xp.dv Xq.dv rfl OK.out).mono ?_); rintro e w4 ⟨rfl, hb⟩; have D := Lib.hid (D.out.trans (hb.mono D.out.size)); clear hb))
  go_ret
  exact ⟨rfl, D0.out.trans (D.out.mono D0.out.size)⟩
end XC
end Go.Proofs.YtelblhgagpkjmaaDoor

/-
  Package exact: one, and much less (exactLives).
-/
namespace Go.Proofs.YtelblhgagpkjmaaDoor
set_option linter.unusedVariables false
set_option linter.unusedSimpArgs false
open Go.RowKit
set_option linter.unusedVariables false
set_option linter.unusedSimpArgs false
namespace XC
open L NC NK DC RC SC PC QC IC
open Z (cmpv)
/-- one and so many more -/
theorem one_up {x j : Int} (j0 : 0 ≤ j) (j1 : j < 4503599627370496) (hx : x = 4607182418800017408 + j) {E : Int} (hE : E = sc 1 (-52)) : fi x ∧ val x = (4503599627370496 + j) * E ∧ U x = (4503599627370496 + j) * E ∧ U (x + 1) = (4503599627370496 + j) * E + E ∧ F.sgn x = false ∧ sz x = (4503599627370496 + j) * E := by
  have fx : fi x := fi_of (by omega) (by omega) (by omega)
  obtain ⟨k, hk⟩ : ∃ k : Nat, k = 1022 := ⟨_, rfl⟩
  obtain ⟨u1, u2⟩ := U_of (k := k) (q := 4503599627370496 + j) (by omega) (by omega) (by omega)
  rw [show (k : Int) * 4503599627370496 + (4503599627370496 + j) = x by omega, show (k : Int) - 1074 = -52 by omega, ← hE] at u1 u2
  have hs : F.sgn x = false := F.sgn_f (by omega)
  have hm : x % 9223372036854775808 = x := by omega
  refine ⟨fx, ?_, u1, ?_, hs, ?_⟩
  · rw [val_eq fx, hs, hm, u1]; rfl
  · rw [u2, Int.add_mul, Int.one_mul]
  · unfold sz; rw [hm, u1]
theorem sc52 {t : Nat} {e : Int} (ht : (t : Int) + e = -52) (h : -1100 ≤ e) : sc 1 (-52) = 2 ^ t * sc 1 e := by
  rw [← sc_mul1, sc_two _ _ (by omega)]
  congr 1; omega
theorem live_sum {O Y : Int} (hO : O = 4607182418800017408) (hY : Y = 4363988038922010624) : T2 O Y = (O, Y, 0) := by
  obtain ⟨E, hE⟩ : ∃ E, E = sc 1 (-52) := ⟨_, rfl⟩
  obtain ⟨fO, vO, uO, uO', sO, -⟩ := one_up (x := O) (j := 0) (by omega) (by omega) (by omega) hE
  obtain ⟨fY, vY, sY, cY⟩ := pow_val (p := Y) (k := -54) (by omega) (by omega) (by omega)
  have e4 := sc52 (t := 2) (e := -54) (by omega) (by omega)
  rw [← hE, show (2 : Int) ^ 2 = 4 by decide] at e4
  have hp := sc_one_pos (-54)
  obtain ⟨D, hD⟩ : ∃ D, D = sc 1 (-54) := ⟨_, rfl⟩
  rw [← hD] at vY e4 hp
  have hf := f2 fO fY
  have hv : vs [O, Y] = (4503599627370496 + 0) * E + D := by simp only [vs]; rw [vO, vY]; omega
  have hn : vs [O, Y] ≠ 0 := by rw [hv]; omega
  have t := tot_ok hf (by simp)
  rw [hv] at t
  have a := (A_abs (tot [O, Y] dz)).1 (by rw [t.2]; omega)
  have tw := tow_bit (a := A (tot [O, Y] dz)) uO uO' (by omega) (by omega) (by rw [a.1, t.2]) hp (by omega) rfl
  obtain ⟨x1, x2, -⟩ := TX_of t.1 (mode := 0) (by omega) tw
  have eO : ad O Y = O := by
    unfold ad
    rw [(AT_fin (by omega) (by simp) hf).2 hn]
    show TX _ 0 = O
    rw [x1, a.2]
    unfold rx ry RC.up
    simp
  obtain ⟨s, r, X, Y', N, e, fs, fr, vx, vy, vN, vr, -, -, -⟩ := two_p fO fY (by unfold F.exq; omega) (by unfold F.exq; omega)
  have es : s = O := by
    unfold T2 at e
    rw [if_neg (by rintro (k | k); exact fO.2.2 k; exact fY.2.2 k)] at e
    split at e
    · cases e
    · exact ((congrArg Prod.fst e).symm.trans eO)
  have er : r = Y := by
    have e1 : val r = val Y := by
      rw [es, vx] at vN
      rw [vr, vy, show X + Y' - N = Y' + (X - N) by omega, Int.add_mul, Int.sub_mul]
      omega
    rcases num_same fr fY e1 with q | q
    · exact q
    · omega
  rw [e, es, er]
end XC
end Go.Proofs.YtelblhgagpkjmaaDoor

