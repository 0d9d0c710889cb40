/-
  Package nat: subTimes, quotientLimb.
-/
import Derived.Test.YtjihapnplfdmmaaDoorN8
import Derived.Test.YtjihapnplfdmmaaDoorNDivP
namespace Go.Proofs.YtjihapnplfdmmaaDoor
open Go.RowKit
set_option linter.unusedVariables false
namespace NC
open L
open Z (Nz Tz cmpv)
theorem times_last {X Y M : List Int} {q c z : Int} {m : Nat} {b : Bool} (h : TimI (-1) X Y q m M c) (hm : m = Y.length) (hX : m < X.length) (hz : z = M.getD m 0 - c + (if b then 4294967296 else 0)) :
    lv (M.set m z) = lv X - q * lv Y + (if b then 4294967296 ^ (m + 1) else 0) := by
  have e := h.done (by omega)
  rw [lv_set _ _ _ (by rw [h.len]; exact hX), hz, Int.pow_succ]
  cases b
  · simp; grind
  · simp; grind
/-- written in place; it tells a bool -/
def RetEdB (w : World) (g : Nat) (cs : Array Value) (o n : Nat) (p : List Int → Bool → Prop) (e : Ending) (w' : World) : Prop :=
  ∃ M b, e = .returned (.bool b) ∧ Ed w w' g cs o n M ∧ Lim M ∧ Hid (p M b)
theorem subTimes_c (g o n c : Nat) (cs : Array Value) (X Y : List Int) (vb : Value) (q : Int) (w : World) (hb : Blk w g 50 cs) (hx : Wn cs o X) (hn : X.length = n) (hY : SlA .u32 w vb Y g) (LX : Lim X) (LY : Lim Y)
    (hlen : Y.length + 1 = n) (hN : n ≤ 1000000000) (hc : n ≤ c) (hq : 0 ≤ q ∧ q < 4294967296) :
    Calls Tryd.prog 72 #[.slice (some ⟨g, o, none⟩) n c, vb, .int .u32 q] w (RetEdB w g cs o n fun M b => lv M = lv X - q * lv Y + (if b then 4294967296 ^ n else 0)) := by
  have E0 := Lib.hid (Ed.start hb hx hn)
  have hY' := hY
  obtain ⟨B, d, rfl, hd, _⟩ := hY'
  have HY := Lib.hid hY
  obtain ⟨m, hm⟩ : ∃ m, m = Y.length := ⟨_, rfl⟩
  rw [← hm] at hd hlen HY ⊢
  have LY' := Lib.hid LY
  have HM := Lib.hid hm
  have HN := Lib.hid hn
  have I0 := Lib.hid (TimI.start (-1) Y q LX)
  clear hY hb hx LX LY hm hn
  go_enter Tryd.func72, Tryd.ntmps72
  go_wp2
  go_loopw [14, 7] (fun iv cv wr => ∃ (i : Nat) (M : List Int) (k : Int), iv = .int .i64 i ∧ i ≤ m ∧ cv = .int .u64 k ∧ Hid (TimI (-1) X Y q i M k) ∧ Hid (Ed w wr g cs o n M)) (fun iv _ _ => m - (intOf iv).toNat)
  case atStart => exact ⟨0, X, 0, rfl, by omega, rfl, I0, E0⟩
  case round =>
    obtain ⟨i, M, k, rfl, hi, rfl, hI, hE⟩ := hrel
    have ik := hI.out.c0
    have ik1 := hI.out.c1
    by_cases him : i < m
    · obtain ⟨ady, cy, ey, hcy, hyc⟩ := (HY.out.grown hE.out.grown).at_ i (by rw [← HM.out]; exact him)
      injection ey with ey1 ey2 ey3
      subst ey1
      clear ey2 ey3 hcy
      have hxc := hE.out.cell i (by omega)
      have bx := hI.out.lim.at_ i
      have bY := LY'.out.at_ i
      have fx := hE.out.frozen (o + i)
      obtain ⟨x, ex⟩ : ∃ x, M.getD i 0 = x := ⟨_, rfl⟩
      obtain ⟨y, ey⟩ : ∃ y, Y.getD i 0 = y := ⟨_, rfl⟩
      rw [ex] at hxc bx
      rw [ey] at hyc bY
      have hxy : 0 ≤ y * q := Int.mul_nonneg bY.1 hq.1
      have hxy2 : y * q ≤ 4294967295 * 4294967295 := Int.mul_le_mul (by omega) (by omega) hq.1 (by omega)
      have hS : ∀ z c', 0 ≤ z → z < 4294967296 → 0 ≤ c' → c' ≤ 4294967296 → z - 4294967296 * c' = x - y * q - k → TimI (-1) X Y q (i + 1) (M.set i z) c' := fun z c' h0 h1 h2 h3 h4 =>
        hI.out.step (by rw [HN.out]; omega) h0 h1 h2 h3 (by rw [ex, ey]; omega)
      have HS := Lib.hid hS
      have hES := Lib.hid (fun z => hE.out.set_ i (by omega) z)
      clear ex ey hS
      obtain ⟨p, hp⟩ : ∃ p, y * q = p := ⟨_, rfl⟩
      rw [hp] at hxy hxy2 HS
      by_cases hlt : x < (k + p) % 4294967296
      · go_wp2
        exact ⟨⟨i + 1, _, _, by simp, by omega, rfl, HS.out _ _ (by omega) (by omega) (by omega) (by omega) (by omega), hES.out _⟩, by simp only [intOf]; omega⟩
      · go_wp2
        exact ⟨⟨i + 1, _, _, by simp, by omega, rfl, HS.out _ _ (by omega) (by omega) (by omega) (by omega) (by omega), hES.out _⟩, by simp only [intOf]; omega⟩
    · obtain rfl : m = i := by omega
      have hxc := hE.out.cell m (by omega)
      have bx := hI.out.lim.at_ m
      have fx := hE.out.frozen (o + m)
      have HL := Lib.hid (fun (b : Bool) (z : Int) => times_last (b := b) (z := z) hI.out HM.out (by rw [HN.out]; omega))
      obtain ⟨x, ex⟩ : ∃ x, M.getD m 0 = x := ⟨_, rfl⟩
      rw [ex] at hxc bx HL
      have hES := Lib.hid (fun z => hE.out.set_ m (by omega) z)
      have hLM := Lib.hid (fun z h0 h1 => hI.out.lim.set m (z := z) h0 h1)
      clear ex
      have em : m + 1 = n := hlen
      by_cases hlt : x < k
      · go_wp2
        go_ret
        refine ⟨_, true, rfl, hES.out _, hLM.out _ (by omega) (by omega), ?_⟩
        rw [← em]
        exact HL.out true _ (by simp <;> omega)
      · go_wp2
        go_ret
        refine ⟨_, false, rfl, hES.out _, hLM.out _ (by omega) (by omega), ?_⟩
        rw [← em]
        exact HL.out false _ (by simp <;> omega)
set_option maxRecDepth 100000 in
/-- what a limb of a quotient leaves: block g from o on reads M; the limb -/
theorem quotientLimb_c (g o n c : Nat) (cs : Array Value) (R D : List Int) (vb : Value) (w : World) (hb : Blk w g 50 cs) (hx : Wn cs o R) (hn : R.length = n) (hY : SlA .u32 w vb D g) (LR : Lim R) (LD : Lim D) (nD : Nz D)
    (hlen : D.length + 1 = n) (hN : n ≤ 1000000000) (hc : n ≤ c) (hD : D ≠ []) (hlt : lv R < 4294967296 * lv D) :
    Calls Tryd.prog 65 #[.slice (some ⟨g, o, none⟩) n c, vb] w (RetEd w g cs o n fun M k => k = lv R / lv D ∧ lv M = lv R % lv D) := by
  obtain ⟨m, hm⟩ : ∃ m, m + 1 = D.length := ⟨D.length - 1, by have := List.length_pos_iff.2 hD; omega⟩
  have E0 := Ed.start hb hx hn
  obtain ⟨B, d, rfl, hd⟩ := hY.sl.form
  obtain ⟨ad, d', e, hd', hcd⟩ := hY.at_ m (by omega)
  injection e with e1 e2 e3
  subst e1
  subst e3
  clear e2 hd'
  have c1 := E0.cell (m + 1) (by omega)
  have c0 := E0.cell m (by omega)
  have bD := LD.at_ m
  have b1 := LR.at_ (m + 1)
  have b0 := LR.at_ m
  have hdt : 0 < D.getD m 0 := by
    have h1 := nD hD
    rw [List.getLast_eq_getElem] at h1
    have h2 : D.getD m 0 = D[D.length - 1]'(by omega) := by
      rw [List.getD_eq_getElem?_getD, List.getElem?_eq_getElem (by omega)]
      simp [← hm]
    rw [h2] at bD ⊢
    omega
  have hvD : 0 < lv D := by
    have := lv_ge LD nD hD
    have := pow_pos (D.length - 1)
    omega
  obtain ⟨gs, hgs⟩ : ∃ gs, gs = min ((R.getD (m + 1) 0 * 4294967296 + R.getD m 0) / D.getD m 0) 4294967295 := ⟨_, rfl⟩
  have hup : ∀ q, 0 ≤ q → q * lv D ≤ lv R → q < 4294967296 → q ≤ gs := fun q q0 hq q1 => guess_ok LR LD (by omega) hm.symm hdt q0 hq q1 hgs
  have hgs0 : 0 ≤ gs ∧ gs < 4294967296 := by
    have : 0 ≤ (R.getD (m + 1) 0 * 4294967296 + R.getD m 0) / D.getD m 0 := Int.ediv_nonneg (by omega) (by omega)
    omega
  have SB := Lib.hid (subTimes_c g o n c cs R D _ gs w.drew hb.drew hx hn hY.drew LR LD hlen hN hc hgs0)
  have HQ : Hid (∀ M b, M.length = n → Lim M → lv M = lv R - gs * lv D + (if b then 4294967296 ^ n else 0) → QI R D n gs b M) := fun M b h1 h2 h3 => ⟨h1, h2, hgs0.1, hgs0.2, h3, fun q q0 hq q1 => .inl (hup q q0 hq q1)⟩
  have HY := Lib.hid hY
  have HLR := Lib.hid LR
  have HLD := Lib.hid LD
  have hDn : D.length ≤ n := by omega
  have HFIN : Hid (∀ k M, QI R D n k false M → k = lv R / lv D ∧ lv M = lv R % lv D) := fun k M h => h.done hvD LR hlt
  have hm2 : D.length = m + 1 := hm.symm
  rw [hm2] at hd SB HY ⊢
  generalize R.getD (m + 1) 0 = r1 at *
  generalize R.getD m 0 = r0 at *
  generalize D.getD m 0 = dt at *
  have hor : bits .or .u64 (r1 * 4294967296) r0 = r1 * 4294967296 + r0 := by
    exact or_high64 _ _ (by omega) (by omega) (by omega) b0.1 b0.2
  have hn1 : m + 2 ≤ n := by omega
  have hn2 : n ≤ m + 2 := by omega
  have HGS := Lib.hid hgs
  have HDN := Lib.hid hDn
  clear hb hx hY LR LD nD hD hlt hup hvD E0 hm hm2 hlen hn hgs hDn
  have i1 : (m : Int) + 1 < n := by omega
  have i2 : (m : Int) < n := by omega
  obtain ⟨t, ht⟩ : ∃ t, (r1 * 4294967296 + r0) / dt = t := ⟨_, rfl⟩
  have t0 : 0 ≤ t := by rw [← ht]; exact Int.ediv_nonneg (by omega) (by omega)
  have t1 : t < 18446744073709551616 := by
    rw [← ht, Int.ediv_lt_iff_lt_mul hdt]; omega
  rw [ht] at HGS
  have HT := Lib.hid ht
  rcases Int.lt_or_le t 4294967296 with htc | htc
  · have eg : gs = t := by have := HGS.out; omega
    subst eg
    clear HGS hgs0
    go_enter Tryd.func65, Tryd.ntmps65
    go_wp2
    go_region
    go_wp2_with (first | (go_at_call 72; (with_reducible refine (SB.out).mono ?_); rintro e w2 ⟨M, b, rfl, hE, hLM, hv⟩))
    go_loopw [7, 8] (fun gv bv wr => ∃ (gg : Int) (bb : Bool) (M : List Int), gv = .int .u32 gg ∧ bv = .bool bb ∧ Hid (QI R D n gg bb M) ∧ Hid (Ed w wr g cs o n M)) (fun gv _ _ => (intOf gv).toNat)
    case atStart => exact ⟨_, b, M, rfl, rfl, HQ.out M b hE.len hLM hv.out, hE.undrew⟩
    case round =>
      obtain ⟨gg, bb, M, rfl, rfl, hQ, hE⟩ := hrel
      cases bb
      · have hF := Lib.hid (HFIN.out _ _ hQ.out)
        have g0 := hQ.out.g0
        have g1 := hQ.out.g1
        go_wp2
        go_ret
        exact ⟨M, gg, rfl, hE.out, hQ.out.lim, g0, g1, hF.out⟩
      · have gp := hQ.out.pos HLR.out
        have g1 := hQ.out.g1
        obtain ⟨cs', hb', hM', hag⟩ := hE.out.again
        have AT := Lib.hid (addTo_c g o n c cs' M D _ wr hb' hM' hQ.out.len (HY.out.grown hE.out.grown) hQ.out.lim HLD.out HDN.out hN hc)
        have HAG := Lib.hid hag
        clear hb' hM' hag
        go_wp2_with (first | (go_at_call 50; (with_reducible refine (AT.out).mono ?_); rintro e w3 ⟨M3, k3, rfl, hE3, hLM3, k0, k1, hv3⟩))
        have hQ3 := hQ.out.step HLR.out HLD.out hE3.len hLM3 k0 hv3.out.2 hv3.out.1
        exact ⟨⟨gg - 1, _, M3, by simp, rfl, hQ3, HAG.out _ _ hE3⟩, by simp only [intOf]; omega⟩
  · have eg : gs = 4294967295 := by have := HGS.out; omega
    subst eg
    clear HGS hgs0
    go_enter Tryd.func65, Tryd.ntmps65
    go_wp2
    go_region
    go_wp2_with (first | (go_at_call 72; (with_reducible refine (SB.out).mono ?_); rintro e w2 ⟨M, b, rfl, hE, hLM, hv⟩))
    go_loopw [7, 8] (fun gv bv wr => ∃ (gg : Int) (bb : Bool) (M : List Int), gv = .int .u32 gg ∧ bv = .bool bb ∧ Hid (QI R D n gg bb M) ∧ Hid (Ed w wr g cs o n M)) (fun gv _ _ => (intOf gv).toNat)
    case atStart => exact ⟨_, b, M, rfl, rfl, HQ.out M b hE.len hLM hv.out, hE.undrew⟩
    case round =>
      obtain ⟨gg, bb, M, rfl, rfl, hQ, hE⟩ := hrel
      cases bb
      · have hF := Lib.hid (HFIN.out _ _ hQ.out)
        have g0 := hQ.out.g0
        have g1 := hQ.out.g1
        go_wp2
        go_ret
        exact ⟨M, gg, rfl, hE.out, hQ.out.lim, g0, g1, hF.out⟩
      · have gp := hQ.out.pos HLR.out
        have g1 := hQ.out.g1
        obtain ⟨cs', hb', hM', hag⟩ := hE.out.again
        have AT := Lib.hid (addTo_c g o n c cs' M D _ wr hb' hM' hQ.out.len (HY.out.grown hE.out.grown) hQ.out.lim HLD.out HDN.out hN hc)
        have HAG := Lib.hid hag
        clear hb' hM' hag
        go_wp2_with (first | (go_at_call 50; (with_reducible refine (AT.out).mono ?_); rintro e w3 ⟨M3, k3, rfl, hE3, hLM3, k0, k1, hv3⟩))
        have hQ3 := hQ.out.step HLR.out HLD.out hE3.len hLM3 k0 hv3.out.2 hv3.out.1
        exact ⟨⟨gg - 1, _, M3, by simp, rfl, hQ3, HAG.out _ _ hE3⟩, by simp only [intOf]; omega⟩
end NC
end Go.Proofs.YtjihapnplfdmmaaDoor
