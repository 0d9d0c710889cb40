/-
  Texts glued together for a claim: N9 NDivQ NLen N10 NRootP N11 N12 N13 N14 Str NTextP N15 N16 Ok N17 N18 DPure.
-/
import Derived.Test.YtpmjeipdldnnbaaGreatDoorK4
import Derived.Test.YtpmjeipdldnnbaaGreatDoorK1
import Derived.Lib.BitFns
import Derived.Lib.Small
import Derived.Lib.Strings
import Derived.Lib.Slices
import Derived.Lib.Walk
import Derived.OneCell
import Derived.Laws.Concat
import Derived.Laws.Strings2
import Derived.Laws.Strings
import Derived.Laws.IdiomStrings
import Derived.Test.YtpmjeipdldnnbaaGreatDoorProg
import Derived.WalkKit
import Derived.WalkLawsBesides
import Derived.LoopTactic
import Derived.Lib.Hide
import Derived.Outline
/-
  Package nat: subTimes, quotientLimb.
-/
namespace Go.Proofs.YtpmjeipdldnnbaaGreatDoor
set_option linter.unusedVariables false
set_option linter.unusedSimpArgs false
open Go.RowKit
set_option linter.unusedVariables false
namespace NC
open L
open Z (Nz Tz cmpv)
theorem times_last {X Y M : List Int} {q c z : Int} {m : Nat} {b : Bool} (h : TimI (-1) X Y q m M c) (hm : m = Y.length) (hX : m < X.length) (hz : z = M.getD m 0 - c + (if b then 4294967296 else 0)) :
    lv (M.set m z) = lv X - q * lv Y + (if b then 4294967296 ^ (m + 1) else 0) := by
  have e := h.done (by omega)
  rw [lv_set _ _ _ (by rw [h.len]; exact hX), hz, Int.pow_succ]
  cases b
  · simp; grind
  · simp; grind
/-- written in place; it tells a bool -/
def RetEdB (w : World) (g : Nat) (cs : Array Value) (o n : Nat) (p : List Int → Bool → Prop) (e : Ending) (w' : World) : Prop :=
  ∃ M b, e = .returned (.bool b) ∧ Ed w w' g cs o n M ∧ Lim M ∧ Hid (p M b)
theorem subTimes_c (g o n c : Nat) (cs : Array Value) (X Y : List Int) (vb : Value) (q : Int) (w : World) (hb : Blk w g 102 cs) (hx : Wn cs o X) (hn : X.length = n) (hY : SlA .u32 w vb Y g) (LX : Lim X) (LY : Lim Y)
    (hlen : Y.length + 1 = n) (hN : n ≤ 1000000000) (hc : n ≤ c) (hq : 0 ≤ q ∧ q < 4294967296) :
    Calls Tryz.prog 97 #[.slice (some ⟨g, o, none⟩) n c, vb, .int .u32 q] w (RetEdB w g cs o n fun M b => lv M = lv X - q * lv Y + (if b then 4294967296 ^ n else 0)) := by
  have E0 := Lib.hid (Ed.start hb hx hn)
  have hY' := hY
  obtain ⟨B, d, rfl, hd, _⟩ := hY'
  have HY := Lib.hid hY
  obtain ⟨m, hm⟩ : ∃ m, m = Y.length := ⟨_, rfl⟩
  rw [← hm] at hd hlen HY ⊢
  have LY' := Lib.hid LY
  have HM := Lib.hid hm
  have HN := Lib.hid hn
  have I0 := Lib.hid (TimI.start (-1) Y q LX)
  clear hY hb hx LX LY hm hn
  go_enter Tryz.func97, Tryz.ntmps97
  go_wp2
  go_loopw [14, 7] (fun iv cv wr => ∃ (i : Nat) (M : List Int) (k : Int), iv = .int .i64 i ∧ i ≤ m ∧ cv = .int .u64 k ∧ Hid (TimI (-1) X Y q i M k) ∧ Hid (Ed w wr g cs o n M)) (fun iv _ _ => m - (intOf iv).toNat)
  case atStart => exact ⟨0, X, 0, rfl, by omega, rfl, I0, E0⟩
  case round =>
    obtain ⟨i, M, k, rfl, hi, rfl, hI, hE⟩ := hrel
    have ik := hI.out.c0
    have ik1 := hI.out.c1
    by_cases him : i < m
    · obtain ⟨ady, cy, ey, hcy, hyc⟩ := (HY.out.grown hE.out.grown).at_ i (by rw [← HM.out]; exact him)
      injection ey with ey1 ey2 ey3
      subst ey1
      clear ey2 ey3 hcy
      have hxc := hE.out.cell i (by omega)
      have bx := hI.out.lim.at_ i
      have bY := LY'.out.at_ i
      have fx := hE.out.frozen (o + i)
      obtain ⟨x, ex⟩ : ∃ x, M.getD i 0 = x := ⟨_, rfl⟩
      obtain ⟨y, ey⟩ : ∃ y, Y.getD i 0 = y := ⟨_, rfl⟩
      rw [ex] at hxc bx
      rw [ey] at hyc bY
      have hxy : 0 ≤ y * q := Int.mul_nonneg bY.1 hq.1
      have hxy2 : y * q ≤ 4294967295 * 4294967295 := Int.mul_le_mul (by omega) (by omega) hq.1 (by omega)
      have hS : ∀ z c', 0 ≤ z → z < 4294967296 → 0 ≤ c' → c' ≤ 4294967296 → z - 4294967296 * c' = x - y * q - k → TimI (-1) X Y q (i + 1) (M.set i z) c' := fun z c' h0 h1 h2 h3 h4 =>
        hI.out.step (by rw [HN.out]; omega) h0 h1 h2 h3 (by rw [ex, ey]; omega)
      have HS := Lib.hid hS
      have hES := Lib.hid (fun z => hE.out.set_ i (by omega) z)
      clear ex ey hS
      obtain ⟨p, hp⟩ : ∃ p, y * q = p := ⟨_, rfl⟩
      rw [hp] at hxy hxy2 HS
      by_cases hlt : x < (k + p) % 4294967296
      · go_wp2
        exact ⟨⟨i + 1, _, _, by simp, by omega, rfl, HS.out _ _ (by omega) (by omega) (by omega) (by omega) (by omega), hES.out _⟩, by simp only [intOf]; omega⟩
      · go_wp2
        exact ⟨⟨i + 1, _, _, by simp, by omega, rfl, HS.out _ _ (by omega) (by omega) (by omega) (by omega) (by omega), hES.out _⟩, by simp only [intOf]; omega⟩
    · obtain rfl : m = i := by omega
      have hxc := hE.out.cell m (by omega)
      have bx := hI.out.lim.at_ m
      have fx := hE.out.frozen (o + m)
      have HL := Lib.hid (fun (b : Bool) (z : Int) => times_last (b := b) (z := z) hI.out HM.out (by rw [HN.out]; omega))
      obtain ⟨x, ex⟩ : ∃ x, M.getD m 0 = x := ⟨_, rfl⟩
      rw [ex] at hxc bx HL
      have hES := Lib.hid (fun z => hE.out.set_ m (by omega) z)
      have hLM := Lib.hid (fun z h0 h1 => hI.out.lim.set m (z := z) h0 h1)
      clear ex
      have em : m + 1 = n := hlen
      by_cases hlt : x < k
      · go_wp2
        go_ret
        refine ⟨_, true, rfl, hES.out _, hLM.out _ (by omega) (by omega), ?_⟩
        rw [← em]
        exact HL.out true _ (by simp <;> omega)
      · go_wp2
        go_ret
        refine ⟨_, false, rfl, hES.out _, hLM.out _ (by omega) (by omega), ?_⟩
        rw [← em]
        exact HL.out false _ (by simp <;> omega)
set_option maxRecDepth 100000 in
/-- what a limb of a quotient leaves: block g from o on reads M; the limb -/
theorem quotientLimb_c (g o n c : Nat) (cs : Array Value) (R D : List Int) (vb : Value) (w : World) (hb : Blk w g 102 cs) (hx : Wn cs o R) (hn : R.length = n) (hY : SlA .u32 w vb D g) (LR : Lim R) (LD : Lim D) (nD : Nz D)
    (hlen : D.length + 1 = n) (hN : n ≤ 1000000000) (hc : n ≤ c) (hD : D ≠ []) (hlt : lv R < 4294967296 * lv D) :
    Calls Tryz.prog 80 #[.slice (some ⟨g, o, none⟩) n c, vb] w (RetEd w g cs o n fun M k => k = lv R / lv D ∧ lv M = lv R % lv D) := by
  obtain ⟨m, hm⟩ : ∃ m, m + 1 = D.length := ⟨D.length - 1, by have := List.length_pos_iff.2 hD; omega⟩
  have E0 := Ed.start hb hx hn
  obtain ⟨B, d, rfl, hd⟩ := hY.sl.form
  obtain ⟨ad, d', e, hd', hcd⟩ := hY.at_ m (by omega)
  injection e with e1 e2 e3
  subst e1
  subst e3
  clear e2 hd'
  have c1 := E0.cell (m + 1) (by omega)
  have c0 := E0.cell m (by omega)
  have bD := LD.at_ m
  have b1 := LR.at_ (m + 1)
  have b0 := LR.at_ m
  have hdt : 0 < D.getD m 0 := by
    have h1 := nD hD
    rw [List.getLast_eq_getElem] at h1
    have h2 : D.getD m 0 = D[D.length - 1]'(by omega) := by
      rw [List.getD_eq_getElem?_getD, List.getElem?_eq_getElem (by omega)]
      simp [← hm]
    rw [h2] at bD ⊢
    omega
  have hvD : 0 < lv D := by
    have := lv_ge LD nD hD
    have := pow_pos (D.length - 1)
    omega
  obtain ⟨gs, hgs⟩ : ∃ gs, gs = min ((R.getD (m + 1) 0 * 4294967296 + R.getD m 0) / D.getD m 0) 4294967295 := ⟨_, rfl⟩
  have hup : ∀ q, 0 ≤ q → q * lv D ≤ lv R → q < 4294967296 → q ≤ gs := fun q q0 hq q1 => guess_ok LR LD (by omega) hm.symm hdt q0 hq q1 hgs
  have hgs0 : 0 ≤ gs ∧ gs < 4294967296 := by
    have : 0 ≤ (R.getD (m + 1) 0 * 4294967296 + R.getD m 0) / D.getD m 0 := Int.ediv_nonneg (by omega) (by omega)
    omega
  have SB := Lib.hid (subTimes_c g o n c cs R D _ gs w.drew hb.drew hx hn hY.drew LR LD hlen hN hc hgs0)
  have HQ : Hid (∀ M b, M.length = n → Lim M → lv M = lv R - gs * lv D + (if b then 4294967296 ^ n else 0) → QI R D n gs b M) := fun M b h1 h2 h3 => ⟨h1, h2, hgs0.1, hgs0.2, h3, fun q q0 hq q1 => .inl (hup q q0 hq q1)⟩
  have HY := Lib.hid hY
  have HLR := Lib.hid LR
  have HLD := Lib.hid LD
  have hDn : D.length ≤ n := by omega
  have HFIN : Hid (∀ k M, QI R D n k false M → k = lv R / lv D ∧ lv M = lv R % lv D) := fun k M h => h.done hvD LR hlt
  have hm2 : D.length = m + 1 := hm.symm
  rw [hm2] at hd SB HY ⊢
  generalize R.getD (m + 1) 0 = r1 at *
  generalize R.getD m 0 = r0 at *
  generalize D.getD m 0 = dt at *
  have hor : bits .or .u64 (r1 * 4294967296) r0 = r1 * 4294967296 + r0 := by
    exact or_high64 _ _ (by omega) (by omega) (by omega) b0.1 b0.2
  have hn1 : m + 2 ≤ n := by omega
  have hn2 : n ≤ m + 2 := by omega
  have HGS := Lib.hid hgs
  have HDN := Lib.hid hDn
  clear hb hx hY LR LD nD hD hlt hup hvD E0 hm hm2 hlen hn hgs hDn
  have i1 : (m : Int) + 1 < n := by omega
  have i2 : (m : Int) < n := by omega
  obtain ⟨t, ht⟩ : ∃ t, (r1 * 4294967296 + r0) / dt = t := ⟨_, rfl⟩
  have t0 : 0 ≤ t := by rw [← ht]; exact Int.ediv_nonneg (by omega) (by omega)
  have t1 : t < 18446744073709551616 := by
    rw [← ht, Int.ediv_lt_iff_lt_mul hdt]; omega
  rw [ht] at HGS
  have HT := Lib.hid ht
  rcases Int.lt_or_le t 4294967296 with htc | htc
  · have eg : gs = t := by have := HGS.out; omega
    have hmin : min t 4294967295 = gs := by omega
    subst eg
    clear HGS hgs0
    go_enter Tryz.func80, Tryz.ntmps80
    go_wp2
    go_region
    go_wp2_with (first | (go_at_call 97; (with_reducible refine (SB.out).mono ?_); rintro e w2 ⟨M, b, rfl, hE, hLM, hv⟩))
    go_loopw [7, 8] (fun gv bv wr => ∃ (gg : Int) (bb : Bool) (M : List Int), gv = .int .u32 gg ∧ bv = .bool bb ∧ Hid (QI R D n gg bb M) ∧ Hid (Ed w wr g cs o n M)) (fun gv _ _ => (intOf gv).toNat)
    case atStart => exact ⟨_, b, M, rfl, rfl, HQ.out M b hE.len hLM hv.out, hE.undrew⟩
    case round =>
      obtain ⟨gg, bb, M, rfl, rfl, hQ, hE⟩ := hrel
      cases bb
      · have hF := Lib.hid (HFIN.out _ _ hQ.out)
        have g0 := hQ.out.g0
        have g1 := hQ.out.g1
        go_wp2
        go_ret
        exact ⟨M, gg, rfl, hE.out, hQ.out.lim, g0, g1, hF.out⟩
      · have gp := hQ.out.pos HLR.out
        have g1 := hQ.out.g1
        obtain ⟨cs', hb', hM', hag⟩ := hE.out.again
        have AT := Lib.hid (addTo_c g o n c cs' M D _ wr hb' hM' hQ.out.len (HY.out.grown hE.out.grown) hQ.out.lim HLD.out HDN.out hN hc)
        have HAG := Lib.hid hag
        clear hb' hM' hag
        go_wp2_with (first | (go_at_call 98; (with_reducible refine (AT.out).mono ?_); rintro e w3 ⟨M3, k3, rfl, hE3, hLM3, k0, k1, hv3⟩))
        have hQ3 := hQ.out.step HLR.out HLD.out hE3.len hLM3 k0 hv3.out.2 hv3.out.1
        exact ⟨⟨gg - 1, _, M3, by simp, rfl, hQ3, HAG.out _ _ hE3⟩, by simp only [intOf]; omega⟩
  · have eg : gs = 4294967295 := by have := HGS.out; omega
    have hmin : min t 4294967295 = 4294967295 := by omega
    subst eg
    clear HGS hgs0
    go_enter Tryz.func80, Tryz.ntmps80
    go_wp2
    go_region
    go_wp2_with (first | (go_at_call 97; (with_reducible refine (SB.out).mono ?_); rintro e w2 ⟨M, b, rfl, hE, hLM, hv⟩))
    go_loopw [7, 8] (fun gv bv wr => ∃ (gg : Int) (bb : Bool) (M : List Int), gv = .int .u32 gg ∧ bv = .bool bb ∧ Hid (QI R D n gg bb M) ∧ Hid (Ed w wr g cs o n M)) (fun gv _ _ => (intOf gv).toNat)
    case atStart => exact ⟨_, b, M, rfl, rfl, HQ.out M b hE.len hLM hv.out, hE.undrew⟩
    case round =>
      obtain ⟨gg, bb, M, rfl, rfl, hQ, hE⟩ := hrel
      cases bb
      · have hF := Lib.hid (HFIN.out _ _ hQ.out)
        have g0 := hQ.out.g0
        have g1 := hQ.out.g1
        go_wp2
        go_ret
        exact ⟨M, gg, rfl, hE.out, hQ.out.lim, g0, g1, hF.out⟩
      · have gp := hQ.out.pos HLR.out
        have g1 := hQ.out.g1
        obtain ⟨cs', hb', hM', hag⟩ := hE.out.again
        have AT := Lib.hid (addTo_c g o n c cs' M D _ wr hb' hM' hQ.out.len (HY.out.grown hE.out.grown) hQ.out.lim HLD.out HDN.out hN hc)
        have HAG := Lib.hid hag
        clear hb' hM' hag
        go_wp2_with (first | (go_at_call 98; (with_reducible refine (AT.out).mono ?_); rintro e w3 ⟨M3, k3, rfl, hE3, hLM3, k0, k1, hv3⟩))
        have hQ3 := hQ.out.step HLR.out HLD.out hE3.len hLM3 k0 hv3.out.2 hv3.out.1
        exact ⟨⟨gg - 1, _, M3, by simp, rfl, hQ3, HAG.out _ _ hE3⟩, by simp only [intOf]; omega⟩
end NC
end Go.Proofs.YtpmjeipdldnnbaaGreatDoor

/-
  Plain mathematics: long division: what is shifted first.
-/
namespace Go.Proofs.YtpmjeipdldnnbaaGreatDoor.L
set_option linter.unusedVariables false
set_option linter.unusedSimpArgs false
open Z (Nz Tz cmpv)
theorem len_le {L : List Int} {n : Nat} (hL : Lim L) (hn : Nz L) (h1 : lv L < 4294967296 ^ n) : L.length ≤ n := by
  by_cases hne : L = []
  · subst hne; simp
  · have a2 := lv_ge hL hn hne
    rcases Nat.lt_or_ge n L.length with h | h
    · have := pow_mono (show n ≤ L.length - 1 by omega); omega
    · exact h
theorem top_bd {b : List Int} {m : Nat} (hb : Lim b) (hm : b.length = m + 1) : 4294967296 ^ m * b.getD m 0 ≤ lv b ∧ lv b < 4294967296 ^ m * (b.getD m 0 + 1) := by
  have h := lv_split b m (by omega)
  rw [List.drop_of_length_le (by omega)] at h
  have h1 := lv_lt (hb.take m)
  rw [List.length_take, Nat.min_eq_left (by omega)] at h1
  have h2 := lv_nonneg (hb.take m)
  simp only [lv, Int.mul_zero, Int.add_zero] at h
  rw [h]
  refine ⟨by omega, by grind⟩
/-- shifted so that its highest bit is the highest one of its limb, it has as many limbs -/
theorem norm_len {b D : List Int} {m n : Nat} (hb : Lim b) (hm : b.length = m + 1) (h0 : (2 : Int) ^ n ≤ b.getD m 0) (h1 : b.getD m 0 < 2 ^ (n + 1)) (hn : n < 32) (hD : Lim D) (nD : Nz D) (hv : lv D = lv b * 2 ^ (31 - n)) : D.length = m + 1 := by
  obtain ⟨t1, t2⟩ := top_bd hb hm
  have hp := pow_pos m
  have hs := two_pos (31 - n)
  have h2 := two_pos n
  have hb1 : 4294967296 ^ m * 1 ≤ lv b := Int.le_trans (Int.mul_le_mul_of_nonneg_left (by omega) (Int.le_of_lt hp)) t1
  have hb2 : lv b < 4294967296 ^ m * 2 ^ (n + 1) := Int.lt_of_lt_of_le t2 (Int.mul_le_mul_of_nonneg_left (by omega) (Int.le_of_lt hp))
  refine len_eq hD nD ?_ ?_
  · rw [hv]
    have : lv b * 1 ≤ lv b * 2 ^ (31 - n) := Int.mul_le_mul_of_nonneg_left (by omega) (lv_nonneg hb)
    omega
  · rw [hv]
    have e : (2 : Int) ^ (n + 1) * 2 ^ (31 - n) = 4294967296 := by rw [← Int.pow_add, show n + 1 + (31 - n) = 32 by omega]; decide
    have : lv b * 2 ^ (31 - n) < 4294967296 ^ m * 2 ^ (n + 1) * 2 ^ (31 - n) := Int.mul_lt_mul_of_pos_right hb2 hs
    rw [Int.mul_assoc, e] at this
    rw [Int.pow_succ]; exact this
theorem up_len {a A : List Int} {s la : Nat} (ha : Lim a) (hl : a.length = la) (hs : s ≤ 32) (hA : Lim A) (nA : Nz A) (hv : lv A = lv a * 2 ^ s) : A.length ≤ la + 1 := by
  refine len_le hA nA ?_
  have h1 := lv_lt ha
  rw [hl] at h1
  have h2 : (2 : Int) ^ s ≤ 4294967296 := by
    have : (2 : Int) ^ s ≤ 2 ^ 32 := by exact_mod_cast Nat.pow_le_pow_right (by decide : 0 < 2) hs
    exact this
  have h3 := two_pos s
  rw [hv, Int.pow_succ]
  have h4 : lv a * 2 ^ s ≤ lv a * 4294967296 := Int.mul_le_mul_of_nonneg_left h2 (lv_nonneg ha)
  omega
theorem dv_start {a b P : List Int} {s la m nq : Nat} (ha : Lim a) (hla : a.length = la) (hb : Lim b) (nb : Nz b) (hm : b.length = m + 1) (hnq : m + nq = la) (hP : Lim P) (hPl : P.length = la + 1) (hv : lv P = lv a * 2 ^ s) :
    DvI (lv a * 2 ^ s) (lv b * 2 ^ s) nq nq (List.replicate nq 0) P (la + 1) := by
  refine ⟨by simp, Lim.rep _, hPl, hP, fun j _ => Z.getD_rep _ _, by rw [lv_rep, hv]; omega, ?_⟩
  have h1 := lv_lt ha
  rw [hla] at h1
  have h2 := lv_ge hb nb (by intro h; subst h; simp at hm)
  rw [hm, Nat.add_sub_cancel] at h2
  have hs := two_pos s
  rw [hv]
  have e : (4294967296 : Int) ^ la = 4294967296 ^ m * 4294967296 ^ nq := by rw [← hnq, Int.pow_add]
  have h3 : 4294967296 ^ m * 4294967296 ^ nq ≤ lv b * 4294967296 ^ nq := Int.mul_le_mul_of_nonneg_right h2 (Int.le_of_lt (pow_pos nq))
  have h4 : lv a * 2 ^ s < lv b * 4294967296 ^ nq * 2 ^ s := Int.mul_lt_mul_of_pos_right (by omega) hs
  rw [show lv b * 2 ^ s * 4294967296 ^ nq = lv b * 4294967296 ^ nq * 2 ^ s by grind]
  exact h4
end Go.Proofs.YtpmjeipdldnnbaaGreatDoor.L

/-
  math/bits: Len32, LeadingZeros32. (The proof of Len32 is after the shelf's.)
-/
namespace Go.Proofs.YtpmjeipdldnnbaaGreatDoor
set_option linter.unusedVariables false
set_option linter.unusedSimpArgs false
open Go.RowKit
set_option linter.unusedVariables false
namespace NC
open L
theorem tab_size : Lib.len8tab.size = 256 := by decide +kernel
theorem tab_eq : ∀ n : Fin 256, (Lib.len8tab[n.val]'(by rw [tab_size]; exact n.isLt)).toNat = Lib.bitLen n.val := by decide +kernel
theorem tab_at (n : Nat) (h : n < Lib.len8tab.size) : (Lib.len8tab[n]'h).toNat = Lib.bitLen n := tab_eq ⟨n, by rw [← tab_size]; exact h⟩
theorem wrap64_id {n : Int} (h : -9223372036854775808 ≤ n ∧ n ≤ 9223372036854775807) : wrap64 n = n := by unfold wrap64; omega
set_option maxHeartbeats 4000000 in
set_option maxRecDepth 100000 in
theorem Len32_c (x : Int) (w : World) (h0 : 0 ≤ x) (h1 : x ≤ 4294967295) : Calls Tryz.prog 83 #[.int .u32 x] w (fun e w' => e = .returned (.int .i64 (Lib.bitLen x.toNat)) ∧ w = w') := by
  have hsz := tab_size
  go_enter Tryz.func83, Tryz.ntmps83
  go_wp2
  all_goals (go_ret; refine ⟨congrArg Ending.returned (congrArg (Value.int IntKind.i64) ?_), rfl⟩)
  all_goals rw [tab_at]
  all_goals first
    | (have e : (x / 65536 / 256).toNat = x.toNat / 16777216 := by omega
       have l := Lib.bitLen_le (x / 65536 / 256).toNat 8 (by omega) (by omega)
       have s := Lib.bitLen_shift24 x.toNat (by omega) (by omega)
       rw [e] at l ⊢
       rw [wrap64_id (n := ((Lib.bitLen (x.toNat / 16777216) : Nat) : Int)) (by omega), wrap64_id (by omega)]
       omega)
    | (have e : (x / 65536).toNat = x.toNat / 65536 := by omega
       have l := Lib.bitLen_le (x / 65536).toNat 8 (by omega) (by omega)
       have s := Lib.bitLen_shift16 x.toNat (by omega) (by omega)
       rw [e] at l ⊢
       rw [wrap64_id (n := ((Lib.bitLen (x.toNat / 65536) : Nat) : Int)) (by omega), wrap64_id (by omega)]
       omega)
    | (have e : (x / 256).toNat = x.toNat / 256 := by omega
       have l := Lib.bitLen_le (x / 256).toNat 8 (by omega) (by omega)
       have s := Lib.bitLen_shift8 x.toNat (by omega) (by omega)
       rw [e] at l ⊢
       rw [wrap64_id (n := ((Lib.bitLen (x.toNat / 256) : Nat) : Int)) (by omega), wrap64_id (by omega)]
       omega)
    | (have l := Lib.bitLen_le x.toNat 8 (by omega) (by omega)
       rw [wrap64_id (n := ((Lib.bitLen x.toNat : Nat) : Int)) (by omega), wrap64_id (by omega)])
theorem LeadingZeros32_c (x : Int) (w : World) (h0 : 0 ≤ x) (h1 : x ≤ 4294967295) : Calls Tryz.prog 79 #[.int .u32 x] w (fun e w' => e = .returned (.int .i64 (32 - (Lib.bitLen x.toNat : Int))) ∧ w = w') := by
  have l := Lib.bitLen_le x.toNat 32 (by omega) (by omega)
  have A := Lib.hid (Len32_c x w h0 h1)
  generalize Lib.bitLen x.toNat = b at *
  go_enter Tryz.func79, Tryz.ntmps79
  go_wp2_with (first | (go_at_call 83; (with_reducible refine (A.out).mono ?_); rintro e w' ⟨rfl, rfl⟩))
  go_ret
  exact ⟨rfl, rfl⟩
theorem bitLen_bd (x : Int) (h0 : 0 < x) (h1 : x ≤ 4294967295) : ∃ n : Nat, Lib.bitLen x.toNat = n + 1 ∧ n < 32 ∧ (2 : Int) ^ n ≤ x ∧ x < 2 ^ (n + 1) := by
  obtain ⟨a, rfl⟩ := Int.eq_ofNat_of_zero_le (Int.le_of_lt h0)
  have ha : a ≠ 0 := by omega
  have key : ∀ (f b : Nat), b ≠ 0 → b < 2 ^ f → ∃ n : Nat, Lib.bitLenAux f b = n + 1 ∧ 2 ^ n ≤ b ∧ b < 2 ^ (n + 1) := by
    intro f
    induction f with
    | zero => intro b h1 h2; simp at h2; omega
    | succ f ih =>
      intro b h1 h2
      simp only [Lib.bitLenAux, if_neg h1]
      by_cases hb : b / 2 = 0
      · refine ⟨0, ?_, by simp; omega, by simp; omega⟩
        rw [hb]
        cases f <;> simp [Lib.bitLenAux]
      · obtain ⟨n, e1, e2, e3⟩ := ih (b / 2) hb (by rw [Nat.pow_succ] at h2; omega)
        exact ⟨n + 1, by omega, by rw [Nat.pow_succ]; omega, by rw [Nat.pow_succ]; omega⟩
  obtain ⟨n, e1, e2, e3⟩ := key 64 a ha (by omega)
  have l := Lib.bitLen_le a 32 (by omega) (by omega)
  refine ⟨n, e1, ?_, by exact_mod_cast e2, by exact_mod_cast e3⟩
  have : Lib.bitLen a = n + 1 := e1
  omega
end NC
end Go.Proofs.YtpmjeipdldnnbaaGreatDoor

/-
  Package nat: divide, Div.
-/
namespace Go.Proofs.YtpmjeipdldnnbaaGreatDoor
set_option linter.unusedVariables false
set_option linter.unusedSimpArgs false
open Go.RowKit
set_option linter.unusedVariables false
namespace NC
open L
open Z (Nz Tz cmpv)
theorem Row.grown {w w' : World} {g g' : Nat} {P : List Int} (h : Row .u32 102 w g P) (hg : w.grownBy w' (some g')) (hne : g ≠ g') : Row .u32 102 w' g P := Blk.grown h hg (by simpa using hne)
theorem Row.below' {w w' : World} {g : Nat} {P : List Int} (h : Row .u32 102 w g P) (hb : Below w.heap.size w w') : Row .u32 102 w' g P := Blk.below h hb (Blk.lt h)
/-- a quotient and a remainder -/
def RetVV (w : World) (q r : Int) (e : Ending) (w' : World) : Prop := ∃ A n c A' n' c', e = .returned (.tuple #[.slice A n c, .slice A' n' c']) ∧ NV w' (.slice A n c) q ∧ NV w' (.slice A' n' c') r ∧ Below w.heap.size w w'
set_option maxRecDepth 100000 in
set_option maxHeartbeats 4000000 in
theorem divide_c (u v : Value) (a b : List Int) (w : World) (hs : Sl .u32 w u a) (ht : Sl .u32 w v b) (La : Lim a) (Lb : Lim b) (na : Nz a) (nb : Nz b) (hl : a.length ≤ 1000) (hb0 : b ≠ []) (hle : lv b ≤ lv a) :
    Calls Tryz.prog 49 #[u, v] w (RetVV w (lv a / lv b) (lv a % lv b)) := by
  have hlen : b.length ≤ a.length := by
    rcases Nat.lt_or_ge a.length b.length with h | h
    · have := lv_len La Lb nb h; omega
    · exact h
  obtain ⟨A, c, rfl, hc⟩ := hs.form
  obtain ⟨m, hm⟩ : ∃ m, b.length = m + 1 := ⟨b.length - 1, by have := List.length_pos_iff.2 hb0; omega⟩
  obtain ⟨ad, d, rfl, hd, _, hcd⟩ := ht.at_ m (by omega)
  have hD0 : 0 < lv b := by
    have := lv_ge Lb nb hb0
    have := pow_pos (b.length - 1)
    omega
  have htop : 0 < b.getD m 0 := by
    have h1 := nb hb0
    rw [List.getLast_eq_getElem] at h1
    have h2 : b.getD m 0 = b[b.length - 1]'(by omega) := by
      rw [List.getD_eq_getElem?_getD, List.getElem?_eq_getElem (by omega)]
      simp [hm]
    have := Lb.at_ m
    rw [h2] at this ⊢
    omega
  have btop := Lb.at_ m
  obtain ⟨n, hn1, hn2, hn3, hn4⟩ := bitLen_bd (b.getD m 0) htop (by omega)
  obtain ⟨s, es⟩ : ∃ s, s = 31 - n := ⟨_, rfl⟩
  have LZ := LeadingZeros32_c (b.getD m 0)
  rw [hn1] at LZ
  have LZ' : Hid (∀ w', Calls Tryz.prog 79 #[.int .u32 (b.getD m 0)] w' (fun e w'' => e = .returned (.int .i64 s) ∧ w' = w'')) := fun w' => by
    have := LZ w' (by omega) (by omega)
    rwa [show (32 - ((n + 1 : Nat) : Int)) = (s : Int) by omega] at this
  obtain ⟨la, hla⟩ : ∃ la, a.length = la := ⟨_, rfl⟩
  obtain ⟨nq, hnq⟩ : ∃ nq, m + nq = la := ⟨la - m, by omega⟩
  have NL := fun (D : List Int) (h1 : Lim D) (h2 : Nz D) (h3 : lv D = lv b * 2 ^ s) => norm_len Lb hm hn3 hn4 hn2 h1 h2 (by rw [← es]; exact h3)
  have NL := Lib.hid NL
  have UL := Lib.hid (fun (D : List Int) (h1 : Lim D) (h2 : Nz D) (h3 : lv D = lv a * 2 ^ s) => up_len (s := s) La hla (by omega) h1 h2 h3)
  have DS := Lib.hid (fun (P : List Int) (h1 : Lim P) (h2 : P.length = la + 1) (h3 : lv P = lv a * 2 ^ s) => dv_start (nq := nq) La hla Lb nb hm hnq h1 h2 h3)
  obtain ⟨q1, q2⟩ := div_shift (lv a) (lv b) s hD0
  have hDs : 0 < lv b * 2 ^ s := Int.mul_pos hD0 (two_pos s)
  have SB := Lib.hid (shiftUp_c _ b s w ht Lb (by omega) (by omega))
  have hs31 : s ≤ 31 := by omega
  have HS := Lib.hid hs
  have LA := Lib.hid La
  obtain ⟨A', eA'⟩ : ∃ x, lv a * 2 ^ s = x := ⟨_, rfl⟩
  obtain ⟨D', eD'⟩ : ∃ x, lv b * 2 ^ s = x := ⟨_, rfl⟩
  rw [eA', eD'] at q1 q2 DS
  rw [eD'] at SB NL hDs
  rw [eA'] at UL
  rw [← q1, ← q2]
  have hmkr := run_make_row' (P := Tryz.prog) 35 102 (.int .u32 0) 4 Tryz.underlying35 (by kernel_rfl) rfl .i64 .i64 (la + 1) (by omega) (by omega)
  have hmkq := run_make_row' (P := Tryz.prog) 35 102 (.int .u32 0) 4 Tryz.underlying35 (by kernel_rfl) rfl .i64 .i64 nq (by omega) (by omega)
  rw [show ((la + 1 : Nat) : Int) = (la : Int) + 1 by omega] at hmkr
  rw [show ((nq : Nat) : Int) = (la : Int) - ((m : Int) + 1) + 1 by omega] at hmkq
  rw [hm] at hd SB ⊢
  rw [hla] at hc HS ⊢
  have EA := Lib.hid eA'
  have LZ2 : Hid (∀ P, lv P = A' → Lim P → P.length ≤ 2000 → ∀ vs w', Sl .u32 w' vs P → True) := fun _ _ _ _ _ _ _ => trivial
  have HNQ := Lib.hid hnq
  have nq0 : (nq : Int) = (la : Int) - (m : Int) := by omega
  have hm9 : m ≤ 1000 := by omega
  have hla9 : la ≤ 1000 := by omega
  have hmla : m + 1 ≤ la := by omega
  have HLA := Lib.hid hla
  have UA : Hid (∀ w' (h : Sl .u32 w' (.slice A la c) a), Calls Tryz.prog 45 #[.slice A la c, .int .i64 s] w' (RetV w' A')) := fun w' h => by
    have := shiftUp_c _ a s w' h LA.out (by omega) (by omega)
    rwa [EA.out] at this
  generalize b.getD m 0 = tp at *
  clear hs ht La Lb na nb hb0 hle hlen hn1 hn2 hn3 hn4 es LZ q1 q2 eA' eD' hla hm hl hD0 hnq LZ2
  go_enter Tryz.func49, Tryz.ntmps49
  go_wp2_with (first | (go_at_call 79; (with_reducible refine (LZ'.out _).mono ?_); rintro e w' ⟨rfl, rfl⟩) | (go_at_call 45; (with_reducible refine (SB.out).mono ?_); rintro e w1 ⟨dA, dn, dc, rfl, hDV, hB1⟩ ; obtain ⟨DL, hDS, lDL, nDL, vDL⟩ := hDV ; have hDl := NL.out DL lDL nDL vDL ; have HDS := Lib.hid hDS ; have HDL := Lib.hid (And.intro lDL (And.intro nDL (And.intro vDL hDl))) ; have hA1 := Lib.hid ((HS.out.below hB1).alloc (.cells (madeCells #[.int .u32 0] (la + 1)) 102)) ; clear hDS lDL nDL vDL hDl) | (go_at_call 45; (with_reducible refine (UA.out _ hA1.out).mono ?_); rintro e w2 ⟨rA, rn, rc, rfl, hRV, hB2⟩ ; obtain ⟨PA, hPS, lPA, nPA, vPA⟩ := hRV ; have hPl := UL.out PA lPA nPA vPA ; have HPS := Lib.hid hPS ; have HPA := Lib.hid (And.intro lPA (And.intro nPA vPA)) ; have hB12 : Below w1.heap.size w1 w2 := ((Below.refl _ _).alloc (Nat.le_refl _) _).trans (hB2.mono (by simp)) ; have hR2 := Lib.hid (Row.below' (Row.new .u32 102 w1 (la + 1)) hB2) ; clear hPS lPA nPA vPA) | ((with_reducible show wpList _ _ _ _ _ _); refine wp_copy_limbs (w := w2) rfl (.tmp 25) (.tmp 28) rfl w1.heap.size (la + 1) rfl _ rfl PA HPS.out hPl hR2.out w1.heap.size w1 hB12 (Nat.le_refl _) ?_; intro w3 hR3 hB3))
  clear hmkr hmkq
  have h13 := Row.lt hR3.out
  go_loopw [10] (fun iv wr => ∃ (k : Nat) (Q P : List Int), iv = .int .i64 ((k : Int) - 1) ∧ k ≤ nq ∧ Hid (DvI A' D' nq k Q P (la + 1)) ∧ Hid (Row .u32 102 wr w1.heap.size P) ∧ Hid (Row .u32 102 wr w3.heap.size Q) ∧ Hid (Below w1.heap.size w1 wr)) (fun iv _ => (intOf iv + 1).toNat)
  case atStart => exact ⟨nq, _, _, by rw [nq0], Nat.le_refl _, DS.out _ (Lim.pad HPA.out.1 _) (len_pad _ _ hPl) (by rw [lv_pad]; exact HPA.out.2.2), Row.alloc hR3.out _, Row.new' _ _ _ _ rfl, hB3.alloc (by omega) _⟩
  case round =>
    obtain ⟨k, Q, P, rfl, hk, hI, hRP, hRQ, hB⟩ := hrel
    by_cases hk0 : 0 < k
    · obtain ⟨i, rfl⟩ : ∃ i, k = i + 1 := ⟨k - 1, by omega⟩
      have ik : ((i + 1 : Nat) : Int) - 1 = i := by omega
      have hPl2 := hI.out.lenP
      have hQl := hI.out.lenQ
      have hmn := HNQ.out
      have SA := SlA.old HDS.out hB.out (Nat.le_refl _)
      have WL := window_lt (m := m + 1) hI.out.limP (by omega) hI.out.lt
      have QL := quotientLimb_c w1.heap.size i (m + 2) (la + 1 - i) _ ((P.drop i).take (m + 2)) DL _ wr hRP.out (Wn.part P i (m + 2)) (by simp; omega) SA ((hI.out.limP.drop i).take _) HDL.out.1 HDL.out.2.1 (by rw [HDL.out.2.2.2]) (by omega) (by omega) (by intro h; have := HDL.out.2.2.2; rw [h] at this; simp at this) (by rw [HDL.out.2.2.1]; exact WL)
      rw [HDL.out.2.2.1] at QL
      have QL2 : Calls Tryz.prog 80 #[.slice (some ⟨w1.heap.size, i, none⟩) (i + (m + 1) + 1 - i) (la + 1 - i), .slice dA dn dc] wr (RetEd wr w1.heap.size ((P.map (Value.int .u32)).toArray) i (m + 2) fun M k => k = lv ((P.drop i).take (m + 2)) / D' ∧ lv M = lv ((P.drop i).take (m + 2)) % D') := by
        rw [show i + (m + 1) + 1 - i = m + 2 by omega]; exact QL
      have QL := Lib.hid QL2
      have hDB : D' ≤ 4294967296 ^ (m + 1) := by
        have := lv_lt HDL.out.1
        rw [HDL.out.2.2.1, HDL.out.2.2.2] at this
        exact Int.le_of_lt this
      have HDB := Lib.hid hDB
      have HPl2 := Lib.hid hPl2
      have HQl := Lib.hid hQl
      have ib : (i : Int) + (m + 1) + 1 ≤ la + 1 := by omega
      have iq : (i : Int) < nq := by omega
      have fq := hRQ.out.frozen i
      have cq := hRQ.out.at_ i (by omega)
      clear hPl2 hQl hmn WL SA hk0 hDB QL2
      go_wp2_with (first | (go_at_call 80; (with_reducible refine (QL.out).mono ?_); rintro e w4 ⟨M, qk, rfl, hE, hLM, k0, k1, hv⟩ ; have hRQ4 := Lib.hid (Row.grown hRQ.out hE.grown (by omega)) ; have fq4 := hRQ4.out.frozen i ; have cq4 := hRQ4.out.at_ i (by have := HQl.out; omega)))
      have hI2 := DvI.step (m := m + 1) hI.out hDs HDB.out (by omega) (by omega) hE.len hLM hv.out.1 hv.out.2 k0 k1
      have hRP4 := hE.row (by have := HPl2.out; omega)
      exact ⟨⟨i, _, _, by simp, by omega, hI2, Row.far hRP4 (by simp; omega) _, Row.set_ hRQ4.out i qk, (hE.below hB.out (Nat.le_refl _) hB.out.size).setCell (by simp; omega) _⟩, by simp only [intOf]; omega⟩
    · obtain rfl : k = 0 := by omega
      have hDn := hI.out.done hDs
      have hPl2 := hI.out.lenP
      have hQl := hI.out.lenQ
      have SQ := hRQ.out.sl nq (by omega)
      have SP := hRP.out.sl (la + 1) (by omega)
      have TQ := trim_c (some ⟨w3.heap.size, 0, none⟩) nq nq Q wr (by rw [hQl] at SQ; exact SQ) (by omega)
      have TP := trim_c (some ⟨w1.heap.size, 0, none⟩) (la + 1) (la + 1) P wr (by rw [hPl2] at SP; exact SP) (by omega)
      have TQ := Lib.hid TQ
      have TP := Lib.hid TP
      have SQ := Lib.hid SQ
      have SP := Lib.hid SP
      have HPl2 := Lib.hid hPl2
      have HDn := Lib.hid hDn
      have hW : Hid (∀ m6, m6 ≤ P.length → lv (P.take m6) = lv P → Calls Tryz.prog 43 #[.slice (some ⟨w1.heap.size, 0, none⟩) m6 (la + 1), .int .i64 s] wr (RetV wr (A' % D' / 2 ^ s))) := fun m6 h1 h2 => by
        have h3 := shiftDown_c _ (P.take m6) s wr (SP.out.take m6 h1) (hI.out.limP.take m6) (by simp; omega) (by omega)
        rw [h2, HDn.out.2] at h3
        exact h3
      clear hDn hPl2 hQl
      go_wp2_with (first | (go_at_call 75; (with_reducible refine (TQ.out).mono ?_); rintro e w5 ⟨m5, rfl, hm5, hz5, hv5, rfl⟩ ; clear TQ) | (go_at_call 75; (with_reducible refine (TP.out).mono ?_); rintro e w6 ⟨m6, rfl, hm6, hz6, hv6, rfl⟩) | (go_at_call 43; (with_reducible refine (hW.out _ hm6 hv6).mono ?_); rintro e w7 ⟨zA, zn, zc, rfl, hZV, hB7⟩))
      go_ret2
      have hB0 := hB1.trans (hB.out.mono hB1.size)
      exact ⟨_, _, _, _, _, _, rfl, (trimmed SQ.out hm5 hI.out.limQ hz5 hv5 HDn.out.1).below hB7, hZV, hB0.trans (hB7.mono hB0.size)⟩
/-- what Div tells of an error -/
def errDiv (l m : List Int) : Int := if chk2 l m ≠ 0 then chk2 l m else if m = [] then 1 else 0
def RetD (w : World) (er q r : Int) (e : Ending) (w' : World) : Prop := ∃ A n c A' n' c', e = .returned (.tuple #[.slice A n c, .slice A' n' c', .int .i64 er]) ∧ NV w' (.slice A n c) q ∧ NV w' (.slice A' n' c') r ∧ Below w.heap.size w w'
theorem RetD.err {w w' : World} {er : Int} (hb : Below w.heap.size w w') : RetD w er 0 0 (.returned (.tuple #[.slice none 0 0, .slice none 0 0, .int .i64 er])) w' := ⟨none, 0, 0, none, 0, 0, rfl, NV.nil _ _ _, NV.nil _ _ _, hb⟩
theorem Head.sl {w : World} {B g c : Nat} {l : List Int} (h : Head w B g c l) : Sl .u32 w (.slice (some ⟨g, 0, none⟩) l.length c) l := by
  obtain ⟨_, hc, cs, hb, hw⟩ := h
  refine ⟨_, c, rfl, hc, .inr ⟨⟨g, 0, none⟩, rfl, hb.lt, fun j hj => ?_⟩⟩
  have e : (⟨g, 0, none⟩ : Addr).add j = ⟨g, 0 + j, none⟩ := by unfold Addr.add; split <;> simp_all
  rw [e, hb.at_ _ (hw j hj), List.getD_eq_getElem?_getD, List.getElem?_eq_getElem hj]; rfl
theorem undrewN {w w' : World} {k : Nat} (h : Below (w.drewN k).heap.size (w.drewN k) w') : Below w.heap.size w w' := ⟨h.os, h.tape, h.output, h.size, h.block⟩
set_option maxRecDepth 100000 in
theorem Div_c (u v : Value) (l m : List Int) (w : World) (hs : Sl .u32 w u l) (ht : Sl .u32 w v m) (hl : l.length ≤ 9223372036854775807) (hm : m.length ≤ 9223372036854775807) (Ll : Lim l) (Lm : Lim m) :
    Calls Tryz.prog 15 #[u, v] w (RetD w (errDiv l m) (if errDiv l m = 0 then lv l / lv m else 0) (if errDiv l m = 0 then lv l % lv m else 0)) := by
  have C := Lib.hid (checkBoth_c u v l m w hs ht hl hm)
  obtain ⟨A, c, rfl, hc⟩ := hs.form
  obtain ⟨B, d, rfl, hd⟩ := ht.form
  by_cases h : chk2 l m = 0
  · have h1 := (chk2_ok.1 h)
    have h2 := chk_ok.1 h1.1
    have h3 := chk_ok.1 h1.2
    rw [h] at C
    by_cases h0 : m = []
    · have he : errDiv l m = 1 := by unfold errDiv; rw [if_neg (by simpa using h), if_pos h0]
      rw [he, if_neg (by decide), if_neg (by decide)]
      have hy : m.length = 0 := by simp [h0]
      obtain ⟨x, ex⟩ : ∃ x, x = l.length := ⟨_, rfl⟩
      rw [← ex] at hc C ⊢
      rw [hy] at hd C ⊢
      have h2' : x ≤ 400 := by rw [ex]; exact h2.1
      clear hs ht hl hm Ll Lm h h1 h2 h3 h0 he hy ex
      go_enter Tryz.func15, Tryz.ntmps15
      go_wp2_with (first | (go_at_call 46; (with_reducible refine (C.out).mono ?_); rintro e w' ⟨rfl, rfl⟩))
      go_ret3
      exact RetD.err (Below.refl _ _)
    · have he : errDiv l m = 0 := by unfold errDiv; rw [if_neg (by simpa using h), if_neg h0]
      rw [he, if_pos rfl, if_pos rfl]
      have P := Lib.hid (compare_c _ _ l m w hs ht Ll Lm h2.2 h3.2 (by omega) (by omega))
      have HC : Hid (∀ w', Sl .u32 w' (.slice A l.length c) l → Calls Tryz.prog 48 #[.slice A l.length c] w' (RetH w' l)) := fun w' h => clone_c _ l w' h (by omega)
      have HD : Hid (∀ w', lv m ≤ lv l → Sl .u32 w' (.slice A l.length c) l → Sl .u32 w' (.slice B m.length d) m → Calls Tryz.prog 49 #[.slice A l.length c, .slice B m.length d] w' (RetVV w' (lv l / lv m) (lv l % lv m))) := fun w' h5 h6 h7 =>
        divide_c _ _ l m w' h6 h7 Ll Lm h2.2 h3.2 (by omega) h0 h5
      have hpos := List.length_pos_iff.2 h0
      have HS := Lib.hid hs
      have HT := Lib.hid ht
      have H2 := Lib.hid h2
      have HL := Lib.hid Ll
      obtain ⟨x, ex⟩ : ∃ x, x = l.length := ⟨_, rfl⟩
      obtain ⟨y, ey⟩ : ∃ y, y = m.length := ⟨_, rfl⟩
      have HX := Lib.hid ex
      have x4 : x ≤ 400 := by rw [ex]; exact h2.1
      have y4 : y ≤ 400 := by rw [ey]; exact h3.1
      rw [← ex] at hc C HS P HC HD ⊢
      rw [← ey] at hd C HT P HD hpos ⊢
      have e3 : ((y : Int) == 0) = false := by simp; omega
      by_cases hlt : lv l < lv m
      · rw [Z.cmpv_lt hlt] at P
        have q0 : lv l / lv m = 0 := Int.ediv_eq_zero_of_lt (lv_nonneg Ll) hlt
        have r0 : lv l % lv m = lv l := Int.emod_eq_of_lt (lv_nonneg Ll) hlt
        rw [q0, r0]
        clear hs ht hl hm Ll Lm h h1 h2 h3 h0 he hlt ex ey q0 r0 HD
        go_enter Tryz.func15, Tryz.ntmps15
        go_wp2_with (first | (go_at_call 46; (with_reducible refine (C.out).mono ?_); rintro e w' ⟨rfl, rfl⟩) | (go_at_call 47; (with_reducible refine (P.out).mono ?_); rintro e w2 ⟨rfl, k, rfl⟩) | (go_at_call 48; (with_reducible refine (HC.out _ (HS.out.drewN k)).mono ?_); rintro e w3 ⟨g, c3, rfl, hH3, hB3⟩))
        go_ret3
        exact ⟨_, _, _, _, _, _, rfl, NV.nil _ _ _, ⟨l, hH3.out.sl, HL.out, H2.out.2, rfl⟩, undrewN hB3⟩
      · have q0 := Z.cmpv_ge0 hlt
        have HLE : Hid (lv m ≤ lv l) := Int.not_lt.1 hlt
        generalize cmpv (lv l) (lv m) = q at P q0
        have e1 : decide (q < 0) = false := by simp; omega
        clear hs ht hl hm Ll Lm h h1 h2 h3 h0 he hlt ex ey HC q0
        go_enter Tryz.func15, Tryz.ntmps15
        go_wp2_with (first | (go_at_call 46; (with_reducible refine (C.out).mono ?_); rintro e w' ⟨rfl, rfl⟩) | (go_at_call 47; (with_reducible refine (P.out).mono ?_); rintro e w2 ⟨rfl, k, rfl⟩) | (go_at_call 49; (with_reducible refine (HD.out _ HLE.out (HS.out.drewN k) (HT.out.drewN k)).mono ?_); rintro e w3 ⟨A1, n1, c1, A2, n2, c2, rfl, hq, hr, hB3⟩))
        go_ret3
        exact ⟨_, _, _, _, _, _, rfl, hq, hr, undrewN hB3⟩
  · have he : errDiv l m = chk2 l m := by unfold errDiv; rw [if_pos h]
    obtain ⟨r, hr⟩ : ∃ r, r = chk2 l m := ⟨_, rfl⟩
    rw [he]
    rw [← hr] at C h ⊢
    have e1 : (r != 0) = true := by simp [h]
    rw [if_neg h, if_neg h]
    clear hs ht hl hm Ll Lm hr h he
    go_enter Tryz.func15, Tryz.ntmps15
    go_wp2_with (first | (go_at_call 46; (with_reducible refine (C.out).mono ?_); rintro e w' ⟨rfl, rfl⟩))
    go_ret3
    exact RetD.err (Below.refl _ _)
end NC
end Go.Proofs.YtpmjeipdldnnbaaGreatDoor

/-
  Plain mathematics: limbs with bits put behind them; the root, two bits at a time.
-/
namespace Go.Proofs.YtpmjeipdldnnbaaGreatDoor.L
set_option linter.unusedVariables false
set_option linter.unusedSimpArgs false
open Z (Nz Tz cmpv)
theorem nz_of_ge {M : List Int} {n : Nat} (hM : Lim M) (hl : M.length = n + 1) (h : 4294967296 ^ n ≤ lv M) : Nz M := by
  intro hne h0
  have h1 := lv_split M n (by omega)
  rw [List.drop_of_length_le (by omega)] at h1
  have h2 := lv_lt (hM.take n)
  rw [List.length_take, Nat.min_eq_left (by omega)] at h2
  have h3 : M.getD n 0 = 0 := by
    rw [List.getLast_eq_getElem] at h0
    rw [List.getD_eq_getElem?_getD, List.getElem?_eq_getElem (by omega)]
    simpa [hl] using h0
  rw [h3] at h1
  simp [lv] at h1
  omega
/-- bits being put behind: so many limbs are moved up by r bits; c is carried -/
structure PuI (X : List Int) (r : Nat) (low : Int) (i : Nat) (M : List Int) (c : Int) : Prop where
  len : M.length = X.length
  lim : Lim M
  c0 : 0 ≤ c
  c1 : c < 2 ^ r
  rest : ∀ j, i ≤ j → M.getD j 0 = X.getD j 0
  sum : lv (M.take i) + 4294967296 ^ i * c = 2 ^ r * lv (X.take i) + low
theorem PuI.start {X : List Int} {r : Nat} {low : Int} (h : Lim X) (h0 : 0 ≤ low) (h1 : low < 2 ^ r) : PuI X r low 0 X low := ⟨rfl, h, h0, h1, fun _ _ => rfl, by simp [lv]⟩
theorem PuI.step {X M : List Int} {r i : Nat} {low c q : Int} (h : PuI X r low i M c) (hi : i < X.length) (hq : X.getD i 0 = q) (q0 : 0 ≤ q) (q1 : q < 4294967296) : PuI X r low (i + 1) (M.set i ((q * 2 ^ r + c) % 4294967296)) ((q * 2 ^ r + c) / 4294967296) := by
  have hp := two_pos r
  have c0 := h.c0
  have c1 := h.c1
  have q2 : 0 ≤ q * 2 ^ r := Int.mul_nonneg q0 (Int.le_of_lt hp)
  have e := Int.emod_add_mul_ediv (q * 2 ^ r + c) 4294967296
  refine ⟨by simp [h.len], h.lim.set _ (Int.emod_nonneg _ (by decide)) (Int.emod_lt_of_pos _ (by decide)), Int.ediv_nonneg (by omega) (by decide), ?_, fun j hj => ?_, ?_⟩
  · rw [Int.ediv_lt_iff_lt_mul (by decide)]
    have : (q + 1) * 2 ^ r ≤ 4294967296 * 2 ^ r := Int.mul_le_mul_of_nonneg_right (by omega) (Int.le_of_lt hp)
    grind
  · rw [getD_set (by rw [h.len]; exact hi), if_neg (by omega)]; exact h.rest j (by omega)
  · rw [lv_take_succ, lv_take_succ, getD_set (by rw [h.len]; exact hi), if_pos rfl, List.take_set_of_le (Nat.le_refl _), hq, Int.pow_succ]
    have := h.sum
    have e2 : (4294967296 : Int) ^ i * ((q * 2 ^ r + c) % 4294967296 + 4294967296 * ((q * 2 ^ r + c) / 4294967296)) = 4294967296 ^ i * (q * 2 ^ r + c) := by rw [e]
    grind
theorem PuI.done0 {X M : List Int} {r : Nat} {low : Int} (h : PuI X r low X.length M 0) (hX : Lim X) (nX : Nz X) (h0 : 0 ≤ low) : lv M = lv X * 2 ^ r + low ∧ Nz M := by
  have := h.sum
  rw [List.take_length, lv_take_all (by rw [h.len]; exact Nat.le_refl _)] at this
  have e : lv M = lv X * 2 ^ r + low := by grind
  refine ⟨e, ?_⟩
  by_cases hne : X = []
  · intro hM
    have := h.len
    rw [hne] at this
    exact absurd (List.eq_nil_of_length_eq_zero this) hM
  · have h1 := lv_ge hX nX hne
    have hp := two_pos r
    have hl := List.length_pos_iff.2 hne
    refine nz_of_ge (n := X.length - 1) h.lim (by rw [h.len]; omega) ?_
    have h2 : lv X * 1 ≤ lv X * 2 ^ r := Int.mul_le_mul_of_nonneg_left (by omega) (lv_nonneg hX)
    omega
theorem PuI.done1 {X M : List Int} {r : Nat} {low c : Int} (h : PuI X r low X.length M c) (hc : 0 < c) : lv (M ++ [c]) = lv X * 2 ^ r + low ∧ Nz (M ++ [c]) := by
  have := h.sum
  rw [List.take_length, lv_take_all (by rw [h.len]; exact Nat.le_refl _)] at this
  refine ⟨by rw [lv_append, h.len]; simp [lv]; grind, fun hne => ?_⟩
  simp; omega
/-- the root under way: k pairs of bits are left; R is the root of the others, re what is left of them -/
structure SqI (A : Int) (K k : Nat) (R tw re : Int) : Prop where
  r0 : 0 ≤ R
  eT : tw = 2 * R
  eR : re = A / 4 ^ k - R * R
  le : re ≤ 2 * R
  re0 : 0 ≤ re
  top : R = 0 → k = K
theorem SqI.start {A : Int} {K : Nat} (h0 : 0 ≤ A) (h : A < 4 ^ K) : SqI A K K 0 0 0 := ⟨by omega, by omega, by rw [Int.ediv_eq_zero_of_lt h0 h]; omega, by omega, by omega, fun _ => rfl⟩
theorem four_step (A : Int) (k : Nat) : A / 4 ^ k = 4 * (A / 4 ^ (k + 1)) + A / 4 ^ k % 4 := by
  have e := Int.emod_add_mul_ediv (A / 4 ^ k) 4
  have hp : (0 : Int) ≤ 4 ^ k := Int.le_of_lt (Int.pow_pos (by decide))
  rw [Int.pow_succ, ← Int.ediv_ediv_of_nonneg hp]
  omega
theorem SqI.less {A R tw re p : Int} {K k : Nat} (h : SqI A K (k + 1) R tw re) (hK : 4 ^ (K - 1) ≤ A) (hp : p = A / 4 ^ k % 4) (hlt : re * 4 + p < tw * 2 + 1) : SqI A K k (2 * R) (tw * 2) (re * 4 + p) ∧ 0 < R := by
  have e := four_step A k
  have h1 := h.eT
  have h2 := h.eR
  have h3 := h.r0
  have h4 := h.re0
  have p0 : 0 ≤ A / 4 ^ k % 4 := Int.emod_nonneg _ (by decide)
  have hR : 0 < R := by
    rcases Int.lt_or_eq_of_le h3 with h5 | h5
    · exact h5
    · exfalso
      have hk := h.top h5.symm
      have a1 : (1 : Int) ≤ A / 4 ^ k := by
        rw [Int.le_ediv_iff_mul_le (Int.pow_pos (by decide))]
        have : K - 1 = k := by omega
        rw [this] at hK
        omega
      rw [← h5] at h1 h2
      simp at h2
      omega
  refine ⟨⟨by omega, by omega, ?_, by omega, by omega, fun h5 => by omega⟩, hR⟩
  rw [e, h2, hp]; grind
theorem SqI.more {A R tw re p : Int} {K k : Nat} (h : SqI A K (k + 1) R tw re) (hp : p = A / 4 ^ k % 4) (hge : tw * 2 + 1 ≤ re * 4 + p) : SqI A K k (2 * R + 1) (tw * 2 + 1 + 1) (re * 4 + p - (tw * 2 + 1)) := by
  have e := four_step A k
  have h1 := h.eT
  have h2 := h.eR
  have h3 := h.r0
  have h4 := h.le
  have p1 : A / 4 ^ k % 4 < 4 := Int.emod_lt_of_pos _ (by decide)
  refine ⟨by omega, by omega, ?_, by omega, by omega, fun h5 => by omega⟩
  rw [e, h2, hp, h1]; grind
theorem SqI.done {A R tw re : Int} {K : Nat} (h : SqI A K 0 R tw re) : R * R + re = A ∧ 0 ≤ re ∧ re ≤ 2 * R ∧ 0 ≤ R := by
  have := h.eR
  simp at this
  exact ⟨by omega, h.re0, h.le, h.r0⟩
/-- a pair of bits of limbs -/
theorem pair_eq {a : List Int} (ha : Lim a) (i : Nat) (hi : i / 16 < a.length) : a.getD (i / 16) 0 / 2 ^ (i % 16 * 2) % 4 = lv a / 4 ^ i % 4 := by
  have e1 : (4 : Int) ^ i = 4294967296 ^ (i / 16) * 2 ^ (i % 16 * 2) := by
    rw [show (4 : Int) = 2 ^ 2 by decide, show (4294967296 : Int) = 2 ^ 32 by decide, ← Int.pow_mul, ← Int.pow_mul, ← Int.pow_add]
    congr 1
    omega
  rw [e1, ← Int.ediv_ediv_of_nonneg (Int.le_of_lt (pow_pos _)), ← lv_div a ha _ (by omega), lv_drop _ hi]
  generalize a.getD (i / 16) 0 = x
  generalize lv (a.drop (i / 16 + 1)) = D
  have ht : i % 16 * 2 + 2 ≤ 32 := by omega
  obtain ⟨p', _, e⟩ := two_split ht
  have hp := two_pos (i % 16 * 2)
  rw [Int.pow_add] at e
  generalize (2 : Int) ^ (i % 16 * 2) = p at *
  have : x + 4294967296 * D = x + p * (4 * p' * D) := by rw [← e]; grind
  rw [this, Int.add_mul_ediv_left _ _ (by omega), Int.mul_assoc 4, Int.add_mul_emod_self_left]
theorem and3 (x : Int) (h0 : 0 ≤ x) (h1 : x < 4294967296) : bits .and .u32 x 3 = x % 4 := by
  obtain ⟨a, rfl⟩ := Int.eq_ofNat_of_zero_le h0
  rw [show (3 : Int) = ((3 : Nat) : Int) by rfl, and_u32 a 3 (by omega) (by decide), show (3 : Nat) = 2 ^ 2 - 1 by decide, Nat.and_two_pow_sub_one_eq_mod]
  rfl
/-- the lowest limb one more, one less -/
theorem lv_set0 {L : List Int} (h : L ≠ []) (z : Int) : lv (L.set 0 z) = lv L + (z - L.getD 0 0) := by
  rw [lv_set L 0 z (List.length_pos_iff.2 h)]; simp
theorem nz_set0 {L : List Int} {z : Int} (hn : Nz L) (hz : z ≠ 0 ∨ 1 < L.length) : Nz (L.set 0 z) := by
  intro hne h0
  cases L with
  | nil => simp at hne
  | cons d r =>
    cases r with
    | nil => simp at h0 hz; exact hz h0
    | cons d2 r =>
      simp only [List.set_cons_zero, List.getLast_cons_cons] at h0
      exact hn (by simp) (by simpa [List.getLast_cons_cons] using h0)
theorem low4 {L : List Int} (h : L ≠ []) {x : Int} (e : lv L = 4 * x + 1) : L.getD 0 0 % 4 = 1 := by
  have := lv_drop (L := L) 0 (List.length_pos_iff.2 h)
  simp only [List.drop_zero] at this
  omega
end Go.Proofs.YtpmjeipdldnnbaaGreatDoor.L

/-
  Package nat: push: a slice of the call's own, written in place and appended to.
-/
namespace Go.Proofs.YtpmjeipdldnnbaaGreatDoor
set_option linter.unusedVariables false
set_option linter.unusedSimpArgs false
open Go.RowKit
set_option linter.unusedVariables false
namespace NC
open L
open Z (Nz Tz cmpv)
abbrev OwnU (w : World) (base : Nat) (v : Value) (X : List Int) : Prop := Own .u32 102 w base v X
section
variable {w : World} {base g n c : Nat} {X : List Int}
theorem OwnU.cell (h : OwnU w base (.slice (some ⟨g, 0, none⟩) n c) X) (j : Nat) (hj : j < X.length) : w.cell? ⟨g, j, none⟩ = some (.int .u32 (X.getD j 0)) := by
  have hn : n = X.length := (Own.sl h).len_.1
  subst hn
  have := World.ownsRow.cellAt h j (by omega)
  rw [this, List.getElem?_map, List.getD_eq_getElem?_getD, List.getElem?_eq_getElem hj]; rfl
theorem OwnU.frozen (h : OwnU w base (.slice (some ⟨g, 0, none⟩) n c) X) (j : Nat) : w.frozen? ⟨g, j, none⟩ = false := by
  have hn : n = X.length := (Own.sl h).len_.1
  subst hn
  exact World.ownsRow.frozenAt h j
theorem OwnU.set_ (h : OwnU w base (.slice (some ⟨g, 0, none⟩) n c) X) (j : Nat) (z : Int) : OwnU (w.setCell ⟨g, j, none⟩ (.int .u32 z)) base (.slice (some ⟨g, 0, none⟩) n c) (X.set j z) := by
  have hn : n = X.length := (Own.sl h).len_.1
  subst hn
  have := (World.ownsRow.stored h j (.int .u32 z)).1
  unfold OwnU Own
  rw [List.map_set, List.length_set]
  exact this
theorem OwnU.form {v : Value} (h : OwnU w base v X) : (v = .slice none 0 0 ∧ X = []) ∨ ∃ g c, v = .slice (some ⟨g, 0, none⟩) X.length c ∧ base ≤ g ∧ g < w.heap.size ∧ X.length ≤ c := by
  rcases h.2 with ⟨rfl, h0⟩ | ⟨g, cap, cur, rfl, hg, hgg, hc, _⟩
  · exact .inl ⟨rfl, List.eq_nil_of_length_eq_zero h0⟩
  · exact .inr ⟨g, cap, rfl, hg, (Array.getElem?_eq_some_iff.1 hgg).1, hc⟩
end
/-- one limb appended, anywhere the walk stands at the call -/
def RetPu (w : World) (base : Nat) (v : Value) (z : Int) (e : Ending) (w' : World) : Prop :=
  ∃ A n c X, e = .returned (.slice A n c) ∧ Hid (OwnU w' base (.slice A n c) X ∧ Lim X ∧ Nz X ∧ lv X = z) ∧ w.grownBy w' v.ownBlock ∧ ((Value.slice A n c).ownBlock = v.ownBlock ∨ ∃ g, (Value.slice A n c).ownBlock = some g ∧ w.heap.size ≤ g)
set_option maxRecDepth 100000 in
theorem push_c (base : Nat) (v : Value) (X : List Int) (r : Nat) (low : Int) (w : World) (hv : OwnU w base v X) (hX : Lim X) (nX : Nz X) (hr : r ≤ 31) (h0 : 0 ≤ low) (h1 : low < 2 ^ r) (hl : X.length ≤ 1000000) (hb : base ≤ w.heap.size) :
    Calls Tryz.prog 84 #[v, .int .i64 r, .int .u32 low] w (RetPu w base v (lv X * 2 ^ r + low)) := by
  have hr2 : (2 : Int) ^ r ≤ 2147483648 := by
    have : (2 : Int) ^ r ≤ 2 ^ 31 := by exact_mod_cast Nat.pow_le_pow_right (by decide : 0 < 2) hr
    exact this
  have hp := two_pos r
  have I0 := Lib.hid (PuI.start hX h0 h1)
  have HDONE0 := Lib.hid (fun (M : List Int) (h : PuI X r low X.length M 0) => h.done0 hX nX h0)
  have HDONE1 := Lib.hid (fun (M : List Int) (c : Int) (h : PuI X r low X.length M c) (hc : 0 < c) => h.done1 hc)
  obtain ⟨zz, hzz⟩ : ∃ zz, lv X * 2 ^ r + low = zz := ⟨_, rfl⟩
  rw [hzz] at HDONE0 HDONE1 ⊢
  obtain ⟨A, c, rfl⟩ := Own.form hv
  obtain ⟨n, hn⟩ : ∃ n, X.length = n := ⟨_, rfl⟩
  have HV := Lib.hid hv
  have HX := Lib.hid hX
  have hc : n ≤ c := by rw [← hn]; exact (Own.sl hv).len_.2
  rw [hn] at hl HV HDONE0 HDONE1 ⊢
  have HN := Lib.hid hn
  obtain ⟨ob, hob⟩ : ∃ ob, (Value.slice A n c).ownBlock = ob := ⟨_, rfl⟩
  clear hv hX nX hn hzz
  go_enter Tryz.func84, Tryz.ntmps84
  go_wp2
  go_loopw [12, 2] (fun iv cv wr => ∃ (i : Nat) (M : List Int) (k : Int), iv = .int .i64 i ∧ i ≤ n ∧ cv = .int .u32 k ∧ Hid (PuI X r low i M k) ∧ Hid (OwnU wr base (.slice A n c) M) ∧ Hid (w.grownBy wr (Value.slice A n c).ownBlock)) (fun iv _ _ => n - (intOf iv).toNat)
  case atStart => exact ⟨0, X, low, rfl, by omega, rfl, I0, HV, World.grownBy.refl _ _⟩
  case round =>
    obtain ⟨i, M, k, rfl, hi, rfl, hI, hO, hG⟩ := hrel
    have ik := hI.out.c0
    have ik1 := hI.out.c1
    by_cases hin : i < n
    · have hML := hI.out.len
      rcases OwnU.form hO.out with ⟨e, _⟩ | ⟨g, c', e, hg, hgs, hc'⟩
      · injection e with _ e; omega
      · injection e with e1 e2 e3
        subst e1
        clear e2 e3 hc'
        have hxc := OwnU.cell hO.out i (by rw [hML, HN.out]; exact hin)
        have fx := OwnU.frozen hO.out i
        have bq := HX.out.at_ i
        rw [hI.out.rest i (Nat.le_refl _)] at hxc
        obtain ⟨q, hq⟩ : ∃ q, X.getD i 0 = q := ⟨_, rfl⟩
        rw [hq] at hxc bq
        have HST := Lib.hid (hI.out.step (by rw [HN.out]; exact hin) hq bq.1 bq.2)
        have t0 : 0 ≤ q * 2 ^ r := Int.mul_nonneg bq.1 (by omega)
        have t1 : q * 2 ^ r ≤ 4294967295 * 2147483648 := Int.mul_le_mul (by omega) hr2 (by omega) (by omega)
        have hwr : IntKind.u64.wrap (q * 2 ^ r) = q * 2 ^ r := Go.u64_wrap_id _ t0 (by omega)
        have hor : bits .or .u64 (q * 2 ^ r) k = q * 2 ^ r + k := bits_join .u64 64 (by decide) (fun n h0 h1 => by rw [IntKind.wrap_u64]; omega) r (q * 2 ^ r) k t0 (Int.mul_emod_left _ _) (by simpa using (show q * 2 ^ r < 18446744073709551616 by omega)) ik ik1 (by have := ik1; simp; omega)
        have hG2 : Hid (∀ u, w.grownBy (wr.setCell ⟨g, i, none⟩ u) (some g)) := fun u => grownBy_set hG.out i u
        clear hML hq hob
        go_wp2
        exact ⟨⟨i + 1, _, _, by simp, by omega, rfl, HST.out, OwnU.set_ hO.out i _, hG2.out _⟩, by simp only [intOf]; omega⟩
    · obtain rfl : n = i := by omega
      have hsz := hG.out.size
      rcases Int.lt_or_eq_of_le ik with hl0 | hl0
      · have e1 : decide (0 < k) = true := by simp [hl0]
        have D := Lib.hid (HDONE1.out M k hI.out hl0)
        have hlm : M.length ≤ 1000000 := by rw [hI.out.len, HN.out]; exact hl
        have HLM := Lib.hid hlm
        clear HDONE0 HDONE1 hlm
        go_wp2_with (first | (at_builtin; refine app1 el_u32 rfl _ _ rfl rfl hO.out k rfl (by have := HLM.out; omega) (by omega) ?_; intro A2 k2 c2 w2 hk2 hown2 hg2 hat2))
        go_ret
        refine ⟨_, _, _, _, rfl, ⟨hown2, ?_, D.out.2, D.out.1⟩, ?_, ?_⟩
        · exact hI.out.lim.app (by intro d hd; simp at hd; omega)
        · exact ⟨hg2.os.trans hG.out.os, hg2.tape.trans hG.out.tape, hg2.output.trans hG.out.output, Nat.le_trans hsz hg2.size, fun j hj hne => (hg2.block j (Nat.lt_of_lt_of_le hj hsz) hne).trans (hG.out.block j hj hne)⟩
        · rcases hat2 with h | h
          · exact .inl h
          · exact .inr ⟨_, h, by omega⟩
      · have D := Lib.hid (HDONE0.out M (by rw [hl0]; exact hI.out))
        subst hl0
        clear HDONE0 HDONE1
        go_wp2
        go_ret
        exact ⟨_, _, _, _, rfl, ⟨hO.out, hI.out.lim, D.out.2, D.out.1⟩, hG.out, .inl rfl⟩
end NC
end Go.Proofs.YtpmjeipdldnnbaaGreatDoor

/-
  Package nat: squareRoot.
-/
namespace Go.Proofs.YtpmjeipdldnnbaaGreatDoor
set_option linter.unusedVariables false
set_option linter.unusedSimpArgs false
open Go.RowKit
set_option linter.unusedVariables false
namespace NC
open L
open Z (Nz Tz cmpv)
def Sep (v u : Value) : Prop := ∀ g, v.ownBlock = some g → u.ownBlock = some g → False
theorem Sep.symm {v u : Value} (h : Sep v u) : Sep u v := fun g h1 h2 => h g h2 h1
section
variable {w w' : World} {base : Nat} {v u u' : Value} {X : List Int}
theorem keepO (h : OwnU w base v X) (hg : w.grownBy w' u.ownBlock) (hs : Sep v u) : OwnU w' base v X := by
  refine World.ownsRow.kept h hg ?_
  cases hv : v.ownBlock with
  | none => exact .inl rfl
  | some g => exact .inr fun e => hs g hv e.symm
theorem sep_after (hs : Sep v u) (h : OwnU w base v X) (h' : u'.ownBlock = u.ownBlock ∨ ∃ g, u'.ownBlock = some g ∧ w.heap.size ≤ g) : Sep v u' := by
  intro g h1 h2
  rcases h' with h' | ⟨g', h3, h4⟩
  · exact hs g h1 (h'.symm.trans h2)
  · have := (Own.lt h g h1).2
    rw [h3] at h2
    injection h2 with h2
    omega
theorem keepS (h : OwnU w base v X) {g j : Nat} {z : Value} (hs : v.ownBlock ≠ some g) : OwnU (w.setCell ⟨g, j, none⟩ z) base v X := ownsRow_setCell_other h hs z
theorem OwnU.take {A : Option Addr} {n c m : Nat} (h : OwnU w base (.slice A n c) X) (hm : m ≤ n) (hA : A ≠ none) : OwnU w base (.slice A m c) (X.take m) := by
  have hn : n = X.length := (Own.sl h).len_.1
  have hl : (X.take m).length = m := by rw [List.length_take, ← hn]; exact Nat.min_eq_left hm
  unfold OwnU Own
  rw [hl]
  refine ⟨by rw [List.length_map, hl]; omega, ?_⟩
  rcases h.2 with ⟨e, _⟩ | ⟨g, cap, cur, e, hg, hgg, hc, hmx, hsz, htk⟩
  · injection e with e1; exact absurd e1 hA
  · injection e with e1 e2 e3
    subst e1 e3
    refine .inr ⟨g, _, cur, rfl, hg, hgg, by omega, hmx, hsz, ?_⟩
    rw [List.map_take, ← htk, List.take_take, Nat.mul_one, Nat.mul_one, Nat.min_eq_left (by omega)]
end
/-- a slice of the call's own, written in place -/
def RetOw (w : World) (base g n c : Nat) (z : Int) (e : Ending) (w' : World) : Prop :=
  ∃ M, e = .returned (.tuple #[]) ∧ w.grownBy w' (some g) ∧ Hid (OwnU w' base (.slice (some ⟨g, 0, none⟩) n c) M ∧ M.length = n ∧ Lim M ∧ lv M = z)
theorem own_of_ed {w w' : World} {base g n c : Nat} {X M : List Int} {cs : Array Value} (h : OwnU w base (.slice (some ⟨g, 0, none⟩) n c) X) (hcs : Blk w g 102 cs) (hE : Ed w w' g cs 0 n M) : OwnU w' base (.slice (some ⟨g, 0, none⟩) n c) M := by
  obtain ⟨cs', hb, hs, hM, _⟩ := hE.blk
  have hl := hE.len
  unfold OwnU Own
  rw [hl]
  refine ⟨by rw [List.length_map, hl]; omega, ?_⟩
  rcases h.2 with ⟨e, _⟩ | ⟨g2, cap, cur, e, hg, hgg, hc, hmx, hsz, htk⟩
  · cases e
  · injection e with e1 e2 e3
    injection e1 with e1
    injection e1 with e1
    subst e1 e3
    have e4 : cs = cur := by
      have := hgg.symm.trans hcs
      injection this with this
      injection this with this
      exact this.symm
    subst e4
    refine .inr ⟨g, _, cs', rfl, hg, hb, by omega, hmx, by rw [hs]; exact hsz, ?_⟩
    apply List.ext_getElem?
    intro j
    rw [List.getElem?_take, List.getElem?_map, Nat.mul_one]
    by_cases hj : j < n
    · have := hM j (by omega)
      rw [Nat.zero_add] at this
      rw [if_pos hj, Array.getElem?_toList, this, List.getD_eq_getElem?_getD, List.getElem?_eq_getElem (by omega)]; rfl
    · rw [if_neg hj, List.getElem?_eq_none (by omega)]; rfl
theorem subFrom_own (base g n c : Nat) (X m : List Int) (vb : Value) (w : World) (hO : OwnU w base (.slice (some ⟨g, 0, none⟩) n c) X) (hY : SlA .u32 w vb m g) (LX : Lim X) (Lm : Lim m) (nm : Nz m) (hle : lv m ≤ lv X) (hN : X.length ≤ 1000000000) :
    Calls Tryz.prog 85 #[.slice (some ⟨g, 0, none⟩) n c, vb] w (RetOw w base g n c (lv X - lv m)) := by
  have hn : n = X.length := (Own.sl hO).len_.1
  subst hn
  have hlen : m.length ≤ X.length := by
    rcases Nat.lt_or_ge X.length m.length with h | h
    · have := lv_len LX Lm nm h; omega
    · exact h
  have hc := (Own.sl hO).len_.2
  obtain ⟨cs, hb, hw⟩ : ∃ cs, Blk w g 102 cs ∧ Wn cs 0 X := by
    by_cases hne : X = []
    · rcases hO.2 with ⟨e, _⟩ | ⟨g2, cap, cur, e, hg, hgg, _⟩
      · cases e
      · injection e with e1 _ _
        injection e1 with e1
        injection e1 with e1
        subst e1
        exact ⟨cur, hgg, by subst hne; intro j hj; simp at hj⟩
    · obtain ⟨g2, c2, e, hH⟩ := own_head hO hne
      injection e with e1 _ _
      injection e1 with e1
      injection e1 with e1
      subst e1
      exact hH.2.2
  refine (subFrom_c g 0 X.length c cs X m vb w hb hw rfl hY LX Lm hlen hN hc hle).mono fun e w' h => ?_
  obtain ⟨M, rfl, hE, hL, hv⟩ := h
  exact ⟨M, rfl, hE.grown, own_of_ed hO hb hE, hE.len, hL, hv.out⟩
end NC
end Go.Proofs.YtpmjeipdldnnbaaGreatDoor

/-
  Package nat: squareRoot, Root; Bits.
-/
namespace Go.Proofs.YtpmjeipdldnnbaaGreatDoor
set_option linter.unusedVariables false
set_option linter.unusedSimpArgs false
open Go.RowKit
set_option linter.unusedVariables false
namespace NC
open L
open Z (Nz Tz cmpv)
/-- limbs of the call's own in normal form -/
structure ON (w : World) (base : Nat) (v : Value) (X : List Int) (z : Int) : Prop where
  o : OwnU w base v X
  l : Lim X
  n : Nz X
  v : lv X = z
theorem ON.drewN {w : World} {base : Nat} {v : Value} {X : List Int} {z : Int} (h : ON w base v X z) (k : Nat) : ON (w.drewN k) base v X z := ⟨Own.drewN h.o k, h.l, h.n, h.v⟩
theorem ON.nil (w : World) (base : Nat) : ON w base (.slice none 0 0) [] 0 := ⟨Own.nil _ _ _ _, Lim.nil, (by intro h; exact absurd rfl h), rfl⟩
theorem ON.len {w : World} {base : Nat} {v : Value} {X : List Int} {z : Int} (h : ON w base v X z) (hz : z < 4294967296 ^ 500) : X.length ≤ 500 := len_le h.l h.n (by rw [h.v]; exact hz)
theorem ON.some_ {w : World} {base : Nat} {A : Option Addr} {n c : Nat} {X : List Int} {z : Int} (h : ON w base (.slice A n c) X z) (hz : 0 < z) : ∃ g, A = some ⟨g, 0, none⟩ ∧ n = X.length ∧ X ≠ [] ∧ base ≤ g ∧ g < w.heap.size := by
  have hne : X ≠ [] := by intro e; have := h.v; rw [e] at this; simp [lv] at this; omega
  rcases OwnU.form h.o with ⟨_, e⟩ | ⟨g, c', e, hg, hgs, _⟩
  · exact absurd e hne
  · injection e with e1 e2 e3
    exact ⟨g, e1, e2, hne, hg, hgs⟩
theorem lv_one {L : List Int} (h : L.length = 1) : lv L = L.getD 0 0 := by
  obtain ⟨d, rfl⟩ := List.length_eq_one_iff.1 h
  simp [lv]
theorem root_bds {A R : Int} {K k : Nat} {tw re : Int} (h : SqI A K k R tw re) (hA : 0 ≤ A) (hs : A < 4294967296 ^ 400) : tw < 4294967296 ^ 401 ∧ re < 4294967296 ^ 401 ∧ tw * 2 + 1 < 4294967296 ^ 500 ∧ re * 4 + 3 < 4294967296 ^ 500 := by
  have h1 := h.eT
  have h2 := h.eR
  have h3 := h.le
  have h4 := h.re0
  have h0 := h.r0
  have h5 : A / 4 ^ k ≤ A := Int.ediv_le_self _ hA
  have h6 : R ≤ R * R ∨ R = 0 := by
    rcases Int.lt_or_eq_of_le h0 with h | h
    · left
      have : R * 1 ≤ R * R := Int.mul_le_mul_of_nonneg_left (by omega) h0
      omega
    · right; exact h.symm
  have e1 : (4294967296 : Int) ^ 401 = 4294967296 ^ 400 * 4294967296 := Int.pow_succ _ _
  have e2 : (4294967296 : Int) ^ 402 = 4294967296 ^ 401 * 4294967296 := Int.pow_succ _ _
  have e3 : (4294967296 : Int) ^ 402 ≤ 4294967296 ^ 500 := pow_mono (by decide)
  have e4 := pow_pos 400
  generalize (4294967296 : Int) ^ 500 = c1 at *
  generalize (4294967296 : Int) ^ 402 = c2 at *
  generalize (4294967296 : Int) ^ 401 = c3 at *
  generalize (4294967296 : Int) ^ 400 = c4 at *
  have h7 : R * R ≤ A := by omega
  refine ⟨?_, ?_, ?_, ?_⟩ <;> rcases h6 with h6 | h6 <;> (try subst h6) <;> omega
/-- a root and what is left -/
def RetSq (w : World) (A : Int) (e : Ending) (w' : World) : Prop :=
  ∃ Ar nr cr As ns cs R re, e = .returned (.tuple #[.slice Ar nr cr, .slice As ns cs]) ∧ NV w' (.slice Ar nr cr) R ∧ NV w' (.slice As ns cs) re ∧ Hid (R * R + re = A ∧ 0 ≤ re ∧ re ≤ 2 * R ∧ 0 ≤ R) ∧ Below w.heap.size w w'
set_option maxRecDepth 100000 in
set_option maxHeartbeats 4000000 in
theorem squareRoot_c (v : Value) (a : List Int) (n : Nat) (w : World) (hs : Sl .u32 w v a) (La : Lim a) (hl : a.length ≤ 400) (h1 : lv a < 2 ^ n) (h2 : n = 0 ∨ 2 ^ (n - 1) ≤ lv a) (hn : n ≤ 12800) :
    Calls Tryz.prog 53 #[v, .int .i64 n] w (RetSq w (lv a)) := by
  obtain ⟨A, c, rfl, hc⟩ := hs.form
  obtain ⟨K, hK⟩ : ∃ K, K = (n + 1) / 2 := ⟨_, rfl⟩
  have hA0 := lv_nonneg La
  have hA4 : lv a < 4 ^ K := by
    refine Int.lt_of_lt_of_le h1 ?_
    rw [show (4 : Int) = 2 ^ 2 by decide, ← Int.pow_mul]
    exact_mod_cast Nat.pow_le_pow_right (by decide : 0 < 2) (show n ≤ 2 * K by omega)
  have hA5 : 0 < K → 4 ^ (K - 1) ≤ lv a := fun h0 => by
    rcases h2 with h2 | h2
    · omega
    · refine Int.le_trans ?_ h2
      rw [show (4 : Int) = 2 ^ 2 by decide, ← Int.pow_mul]
      exact_mod_cast Nat.pow_le_pow_right (by decide : 0 < 2) (show 2 * (K - 1) ≤ n - 1 by omega)
  have hnl : n ≤ 32 * a.length := by
    rcases h2 with h2 | h2
    · omega
    · have h3 := lv_lt La
      rw [pow_two] at h3
      have h4 : (2 : Int) ^ (n - 1) < 2 ^ (32 * a.length) := by omega
      have h5 : (2 : Nat) ^ (n - 1) < 2 ^ (32 * a.length) := by exact_mod_cast h4
      have := (Nat.pow_lt_pow_iff_right (by decide : 1 < 2)).1 h5
      omega
  have hA9 : lv a < 4294967296 ^ 400 := Int.lt_of_lt_of_le (lv_lt La) (pow_mono hl)
  have HS := Lib.hid hs
  have LA := Lib.hid La
  have H5 := Lib.hid hA5
  have BD := Lib.hid (fun R tw re k (h : SqI (lv a) K k R tw re) => root_bds h hA0 hA9)
  have PE := Lib.hid (fun i (h : i / 16 < a.length) => pair_eq La i h)
  have I0 := Lib.hid (SqI.start hA0 hA4)
  obtain ⟨x, ex⟩ : ∃ x, a.length = x := ⟨_, rfl⟩
  rw [ex] at hc HS PE hnl ⊢
  have EX := Lib.hid ex
  have hK1 : ((n : Int) + 1) / 2 = K := by omega
  have hK2 : K ≤ 6400 := by omega
  have hK3 : 2 * K ≤ n + 1 := by omega
  generalize lv a = Av at *
  clear hs La hl h1 h2 hA0 hA4 hA5 hA9 ex hK
  go_enter Tryz.func53, Tryz.ntmps53
  go_wp2
  go_loopw [8, 6, 7] (fun s8 s6 s7 wr => ∃ (k : Nat) (R tw re : Int) (At : Option Addr) (nt ct : Nat) (T : List Int) (Ar : Option Addr) (nr cr : Nat) (S : List Int), s8 = .int .i64 ((k : Int) - 1) ∧ k ≤ K ∧ s6 = .slice At nt ct ∧ s7 = .slice Ar nr cr ∧ Hid (SqI Av K k R tw re) ∧
      Hid (ON wr w.heap.size (.slice At nt ct) T tw) ∧ Hid (ON wr w.heap.size (.slice Ar nr cr) S re) ∧ Hid (Sep (.slice At nt ct) (.slice Ar nr cr)) ∧ Hid (Below w.heap.size w wr)) (fun s8 _ _ _ => (intOf s8 + 1).toNat)
  case atStart => exact ⟨K, 0, 0, 0, none, 0, 0, [], none, 0, 0, [], rfl, Nat.le_refl _, rfl, rfl, I0, ON.nil _ _, ON.nil _ _, (by intro g h; cases h), Below.refl _ _⟩
  case round =>
    obtain ⟨k, R, tw, re, At, nt, ct, T, Ar, nr, cr, S, rfl, hk, rfl, rfl, hI, hT, hS, hSep, hB⟩ := hrel
    clear hK1
    by_cases hk0 : 0 < k
    · obtain ⟨i, rfl⟩ : ∃ i, k = i + 1 := ⟨k - 1, by omega⟩
      have ik : ((i + 1 : Nat) : Int) - 1 = i := by omega
      have hix : i / 16 < x := by omega
      have hpe := PE.out i hix
      obtain ⟨j, hj⟩ : ∃ j, j = i / 16 := ⟨_, rfl⟩
      rw [← hj] at hpe hix
      obtain ⟨adx, cx, exx, _, _, hcx⟩ := (HS.out.below hB.out).at_ j (by rw [EX.out]; exact hix)
      injection exx with ex1 ex2 ex3
      subst ex1
      have bq := LA.out.at_ j
      obtain ⟨q, hq⟩ : ∃ q, a.getD j 0 = q := ⟨_, rfl⟩
      rw [hq] at hcx bq hpe
      obtain ⟨s, hs⟩ : ∃ s, s = i % 16 * 2 := ⟨_, rfl⟩
      rw [← hs] at hpe
      have hs1 : (i : Int) % 16 * 2 = s := by omega
      have hi1 : (i : Int) / 16 = (j : Int) := by omega
      have hi2 : (j : Int) < x := by omega
      have hs31 : s ≤ 31 := by omega
      have hp := two_pos s
      have q0 : 0 ≤ q / 2 ^ s := Int.ediv_nonneg bq.1 (Int.le_of_lt hp)
      have q1 : q / 2 ^ s < 4294967296 := Int.lt_of_le_of_lt (Int.ediv_le_self _ bq.1) bq.2
      have ha3 : bits .and .u32 (q / 2 ^ s) 3 = q / 2 ^ s % 4 := and3 _ q0 q1
      obtain ⟨p, hpp⟩ : ∃ p, q / 2 ^ s % 4 = p := ⟨_, rfl⟩
      rw [hpp] at ha3 hpe
      have p0 : 0 ≤ p ∧ p < 4 := by omega
      obtain ⟨b1, b2, b3, b4⟩ := BD.out _ _ _ _ hI.out
      have hTl := hT.out.len (by omega)
      have hSl := hS.out.len (by omega)
      clear ex2 ex3 hq hs hpp hj
      have wb := hB.out.size
      have P1 := push_c w.heap.size (.slice Ar nr cr) S 2 p wr hS.out.o hS.out.l hS.out.n (by decide) p0.1 (by simpa using p0.2) (by omega) wb
      rw [show lv S * 2 ^ 2 + p = re * 4 + p by rw [hS.out.v, show (2 : Int) ^ 2 = 4 by decide]] at P1
      have P1 : Calls Tryz.prog 84 #[.slice Ar nr cr, .int .i64 2, .int .u32 p] wr (RetPu wr w.heap.size (.slice Ar nr cr) (re * 4 + p)) := P1
      have P1 := Lib.hid P1
      have P2 : Hid (∀ W, ON W w.heap.size (.slice At nt ct) T tw → w.heap.size ≤ W.heap.size → Calls Tryz.prog 84 #[.slice At nt ct, .int .i64 1, .int .u32 1] W (RetPu W w.heap.size (.slice At nt ct) (tw * 2 + 1))) := fun W h h0 => by
        have P2 := push_c w.heap.size (.slice At nt ct) T 1 1 W h.o h.l h.n (by decide) (by decide) (by decide) (by omega) h0
        rw [show lv T * 2 ^ 1 + 1 = tw * 2 + 1 by rw [h.v, show (2 : Int) ^ 1 = 2 by decide]] at P2
        exact P2
      have KT : Hid (∀ W A1 n1 c1 X1, wr.grownBy W (Value.slice Ar nr cr).ownBlock → ON W w.heap.size (.slice A1 n1 c1) X1 (re * 4 + p) → ((Value.slice A1 n1 c1).ownBlock = (Value.slice Ar nr cr).ownBlock ∨ ∃ g, (Value.slice A1 n1 c1).ownBlock = some g ∧ wr.heap.size ≤ g) →
          ON W w.heap.size (.slice At nt ct) T tw ∧ Sep (.slice At nt ct) (.slice A1 n1 c1) ∧ Below w.heap.size w W ∧ w.heap.size ≤ W.heap.size) := fun W A1 n1 c1 X1 h1 h2 h3 => by
        have hb := hB.out.grown h1 wb fun k hk => (Own.lt hS.out.o k hk).1
        exact ⟨⟨keepO hT.out.o h1 hSep.out, hT.out.l, hT.out.n, hT.out.v⟩, sep_after hSep.out hT.out.o h3, hb, hb.size⟩
      have KS : Hid (∀ W1 W A1 n1 c1 X1 A2 n2 c2 X2, W1.grownBy W (Value.slice At nt ct).ownBlock → ON W1 w.heap.size (.slice At nt ct) T tw → ON W1 w.heap.size (.slice A1 n1 c1) X1 (re * 4 + p) → Sep (.slice At nt ct) (.slice A1 n1 c1) → Below w.heap.size w W1 → ON W w.heap.size (.slice A2 n2 c2) X2 (tw * 2 + 1) →
          ((Value.slice A2 n2 c2).ownBlock = (Value.slice At nt ct).ownBlock ∨ ∃ g, (Value.slice A2 n2 c2).ownBlock = some g ∧ W1.heap.size ≤ g) →
          ON W w.heap.size (.slice A1 n1 c1) X1 (re * 4 + p) ∧ Sep (.slice A1 n1 c1) (.slice A2 n2 c2) ∧ Below w.heap.size w W ∧ X2.length ≤ 500 ∧ X1.length ≤ 500) := fun W1 W A1 n1 c1 X1 A2 n2 c2 X2 h1 h0 h2 h3 h4 h5 h6 => by
        have hb := h4.grown h1 h4.size fun k hk => (Own.lt h0.o k hk).1
        exact ⟨⟨keepO h2.o h1 h3.symm, h2.l, h2.n, h2.v⟩, sep_after h3.symm h2.o h6, hb, h5.len b3, h2.len (by omega)⟩
      have twp : 0 < tw * 2 + 1 := by have := hI.out.eT; have := hI.out.r0; omega
      have tw4 : tw * 2 + 1 = 4 * R + 1 := by have := hI.out.eT; omega
      have HTW := Lib.hid tw4
      have CPR : Hid (∀ W A1 n1 c1 X1 A2 n2 c2 X2, ON W w.heap.size (.slice A1 n1 c1) X1 (re * 4 + p) → ON W w.heap.size (.slice A2 n2 c2) X2 (tw * 2 + 1) → X2.length ≤ 500 → X1.length ≤ 500 → Calls Tryz.prog 47 #[.slice A1 n1 c1, .slice A2 n2 c2] W (RetQ W (.int .i64 (cmpv (re * 4 + p) (tw * 2 + 1))))) := fun W A1 n1 c1 X1 A2 n2 c2 X2 h1 h2 h3 h4 => by
        have := compare_c _ _ X1 X2 W (Own.sl h1.o) (Own.sl h2.o) h1.l h2.l h1.n h2.n (by omega) (by omega)
        rwa [h1.v, h2.v] at this
      simp only [ik]
      clear ik
      by_cases hlt : re * 4 + p < tw * 2 + 1
      · have HI2 := Lib.hid (hI.out.less (H5.out (by omega)) hpe hlt)
        have hcm := Z.cmpv_lt hlt
        rw [hcm] at CPR
        clear hcm hlt hpe tw4 b1 b2 b3 b4 hTl hSl hI hT hS hSep hB
        go_wp2_with (first
          | (go_at_call 84; (with_reducible refine (P1.out).mono ?_); rintro e w1 ⟨A1, n1, c1, X1, rfl, h1, hg1, hat1⟩; have S1 : ON w1 w.heap.size (.slice A1 n1 c1) X1 (re * 4 + p) := ⟨h1.out.1, h1.out.2.1, h1.out.2.2.1, h1.out.2.2.2⟩; obtain ⟨T1, Sep1, B1, wb1⟩ := KT.out w1 A1 n1 c1 X1 hg1 S1 hat1; clear P1)
          | (go_at_call 84; (with_reducible refine (P2.out w1 T1 wb1).mono ?_); rintro e w2 ⟨A2, n2, c2, X2, rfl, h2, hg2, hat2⟩; have T2 : ON w2 w.heap.size (.slice A2 n2 c2) X2 (tw * 2 + 1) := ⟨h2.out.1, h2.out.2.1, h2.out.2.2.1, h2.out.2.2.2⟩; obtain ⟨S2, Sep2, B2, l2, l1⟩ := KS.out w1 w2 A1 n1 c1 X1 A2 n2 c2 X2 hg2 T1 S1 Sep1 B1 T2 hat2; obtain ⟨g2, rfl, hn2, hne2, hgb2, hgs2⟩ := ON.some_ T2 twp; have hcl := OwnU.cell T2.o 0 (List.length_pos_iff.2 hne2); have hfr := OwnU.frozen T2.o 0; have hx4 := low4 hne2 (T2.v.trans HTW.out); have bx := T2.l.at_ 0; have HN2 := Lib.hid hn2; have HNE2 := Lib.hid hne2; have n2p : 1 ≤ n2 := (by rw [hn2]; exact List.length_pos_iff.2 hne2); clear hn2 hne2; obtain ⟨x2, hx2⟩ : ∃ x2, X2.getD 0 0 = x2 := ⟨_, rfl⟩; rw [hx2] at hcl hx4 bx; have HX2 := Lib.hid hx2; clear hx2; have CP := CPR.out w2 A1 n1 c1 X1 _ n2 c2 X2 S2 T2 l2 l1; have CP := Lib.hid CP)
          | (go_at_call 47; (with_reducible refine (CP.out).mono ?_); rintro e w3 ⟨rfl, kq, rfl⟩))
        have T3 := T2.drewN kq
        have S3 := S2.drewN kq
        go_roundw
        case rel =>
          refine ⟨i, 2 * R, tw * 2, re * 4 + p, _, n2, c2, X2.set 0 (x2 - 1), A1, n1, c1, X1, by simp, by omega, rfl, rfl, HI2.out.1, ⟨OwnU.set_ T3.o 0 _, T3.l.set 0 (by omega) (by omega), nz_set0 T3.n ?_, ?_⟩, ⟨keepS S3.o ?_, S3.l, S3.n, S3.v⟩, Sep2.symm, ?_⟩
          · by_cases h1 : 1 < X2.length
            · exact .inr h1
            · left
              have e := lv_one (L := X2) (by have := List.length_pos_iff.2 HNE2.out; omega)
              have := T3.v
              have := HTW.out
              have := HI2.out.2
              have := HX2.out
              omega
          · rw [lv_set0 HNE2.out, HX2.out, T3.v]; omega
          · intro h; exact Sep2 g2 h rfl
          · exact (show Below w.heap.size w (w2.drewN kq) from ⟨B2.os, B2.tape, B2.output, B2.size, B2.block⟩).setCell hgb2 _
        case measure => simp [intOf]
      · have HI2 := Lib.hid (hI.out.more hpe (Int.not_lt.1 hlt))
        have q0 := Z.cmpv_ge0 hlt
        have rp : 0 < re * 4 + p := by omega
        have HLE := Lib.hid (Int.not_lt.1 hlt)
        generalize cmpv (re * 4 + p) (tw * 2 + 1) = cq at CPR q0
        have ec : decide (cq < 0) = false := by simp; omega
        have SF : Hid (∀ W g1 n1 c1 X1 A2 n2 c2 X2, ON W w.heap.size (.slice (some ⟨g1, 0, none⟩) n1 c1) X1 (re * 4 + p) → ON W w.heap.size (.slice A2 n2 c2) X2 (tw * 2 + 1) → Sep (.slice (some ⟨g1, 0, none⟩) n1 c1) (.slice A2 n2 c2) → X1.length ≤ 500 → Calls Tryz.prog 85 #[.slice (some ⟨g1, 0, none⟩) n1 c1, .slice A2 n2 c2] W (RetOw W w.heap.size g1 n1 c1 (re * 4 + p - (tw * 2 + 1)))) := fun W g1 n1 c1 X1 A2 n2 c2 X2 h1 h2 h3 h4 => by
          have := subFrom_own w.heap.size g1 n1 c1 X1 X2 (.slice A2 n2 c2) W h1.o (SlA.of (Own.sl h2.o) (by
            intro ad n' c' e h0 h5
            injection e with e1
            subst e1
            exact h3 g1 rfl (by rw [← h5]; rfl))) h1.l h2.l h2.n (by rw [h1.v, h2.v]; exact HLE.out) (by omega)
          rwa [h1.v, h2.v] at this
        clear hlt hpe tw4 b1 b2 b3 b4 hTl hSl hI hT hS hSep hB q0
        go_wp2_with (first
          | (go_at_call 84; (with_reducible refine (P1.out).mono ?_); rintro e w1 ⟨A1, n1, c1, X1, rfl, h1, hg1, hat1⟩; have S1 : ON w1 w.heap.size (.slice A1 n1 c1) X1 (re * 4 + p) := ⟨h1.out.1, h1.out.2.1, h1.out.2.2.1, h1.out.2.2.2⟩; obtain ⟨T1, Sep1, B1, wb1⟩ := KT.out w1 A1 n1 c1 X1 hg1 S1 hat1; clear P1)
          | (go_at_call 84; (with_reducible refine (P2.out w1 T1 wb1).mono ?_); rintro e w2 ⟨A2, n2, c2, X2, rfl, h2, hg2, hat2⟩; have T2 : ON w2 w.heap.size (.slice A2 n2 c2) X2 (tw * 2 + 1) := ⟨h2.out.1, h2.out.2.1, h2.out.2.2.1, h2.out.2.2.2⟩; obtain ⟨S2, Sep2, B2, l2, l1⟩ := KS.out w1 w2 A1 n1 c1 X1 A2 n2 c2 X2 hg2 T1 S1 Sep1 B1 T2 hat2; obtain ⟨g2, rfl, hn2, hne2, hgb2, hgs2⟩ := ON.some_ T2 twp; have hcl := OwnU.cell T2.o 0 (List.length_pos_iff.2 hne2); have hfr := OwnU.frozen T2.o 0; have hx4 := low4 hne2 (T2.v.trans HTW.out); have bx := T2.l.at_ 0; have HN2 := Lib.hid hn2; have HNE2 := Lib.hid hne2; have n2p : 1 ≤ n2 := (by rw [hn2]; exact List.length_pos_iff.2 hne2); clear hn2 hne2; obtain ⟨x2, hx2⟩ : ∃ x2, X2.getD 0 0 = x2 := ⟨_, rfl⟩; rw [hx2] at hcl hx4 bx; have HX2 := Lib.hid hx2; clear hx2; have CP := CPR.out w2 A1 n1 c1 X1 _ n2 c2 X2 S2 T2 l2 l1; have CP := Lib.hid CP)
          | (go_at_call 47; (with_reducible refine (CP.out).mono ?_); rintro e w3 ⟨rfl, kq, rfl⟩; obtain ⟨g1, rfl, hn1, hne1, hgb1, hgs1⟩ := ON.some_ S2 rp; have SF1 := Lib.hid (SF.out (w2.drewN kq) g1 n1 c1 X1 _ n2 c2 X2 (S2.drewN kq) (T2.drewN kq) Sep2 l1); clear hn1 hne1)
          | (go_at_call 85; (with_reducible refine (SF1.out).mono ?_); rintro e w4 ⟨M4, rfl, hg4, h4⟩; have TR4 := Lib.hid (trim_c (some ⟨g1, 0, none⟩) n1 c1 M4 w4 (Own.sl h4.out.1) (by rw [h4.out.2.1]; have := (Own.sl S2.o).len_.1; omega)); have T4 : OwnU w4 w.heap.size (.slice (some ⟨g2, 0, none⟩) n2 c2) X2 := keepO (u := .slice (some ⟨g1, 0, none⟩) n1 c1) (T2.drewN kq).o hg4 Sep2.symm; have hcl4 := OwnU.cell T4 0 (by have := HN2.out; omega); rw [HX2.out] at hcl4; have hfr4 := OwnU.frozen T4 0; clear hcl hfr)
          | (go_at_call 75; (with_reducible refine (TR4.out).mono ?_); rintro e w5 ⟨m5, rfl, hm5, hz5, hv5, rfl⟩))
        have hSr := OwnU.take h4.out.1 (show m5 ≤ n1 by have := h4.out.2.1; omega) (by intro h; cases h)
        refine ⟨⟨i, 2 * R + 1, tw * 2 + 1 + 1, re * 4 + p - (tw * 2 + 1), _, n2, c2, X2.set 0 (x2 + 1), _, m5, c1, M4.take m5, by simp, by omega, rfl, rfl, HI2.out, ⟨OwnU.set_ T4 0 _, T2.l.set 0 (by omega) (by omega), nz_set0 T2.n (.inl (by omega)), ?_⟩, ⟨keepS hSr ?_, h4.out.2.2.1.take m5, hz5, hv5.trans h4.out.2.2.2⟩, ?_, ?_⟩, by simp only [intOf]; omega⟩
        · rw [lv_set0 HNE2.out, HX2.out, T2.v]; omega
        · intro h; exact Sep2 g1 rfl h.symm
        · intro g h1 h2; exact Sep2 g h2 h1
        · exact ((show Below w.heap.size w (w2.drewN kq) from ⟨B2.os, B2.tape, B2.output, B2.size, B2.block⟩).grown hg4 (by exact B2.size) (fun k hk => by injection hk with hk; omega)).setCell hgb2 _
    · obtain rfl : k = 0 := by omega
      have hD := Lib.hid hI.out.done
      have hTl := hT.out.len (by have := (BD.out _ _ _ _ hI.out).2.2.1; have := hI.out.eT; have := hI.out.r0; omega)
      have SD := shiftDown_c _ T 1 wr (Own.sl hT.out.o) hT.out.l (by omega) (by decide)
      rw [hT.out.v, hI.out.eT, show (2 : Int) ^ 1 = 2 by decide, show 2 * R / 2 = R by omega] at SD
      have SD : Calls Tryz.prog 43 #[.slice At nt ct, .int .i64 1] wr (RetV wr R) := SD
      have SD := Lib.hid SD
      go_wp2_with (first | (go_at_call 43; (with_reducible refine (SD.out).mono ?_); rintro e w5 ⟨A5, n5, c5, rfl, hV5, hb5⟩))
      go_ret2
      exact ⟨A5, n5, c5, Ar, nr, cr, R, re, rfl, hV5, NV.below ⟨S, Own.sl hS.out.o, hS.out.l, hS.out.n, hS.out.v⟩ hb5, hD, hB.out.trans (hb5.mono hB.out.size)⟩
end NC
end Go.Proofs.YtpmjeipdldnnbaaGreatDoor

/-
  Package nat: Bits, Root.
-/
namespace Go.Proofs.YtpmjeipdldnnbaaGreatDoor
set_option linter.unusedVariables false
set_option linter.unusedSimpArgs false
open Go.RowKit
set_option linter.unusedVariables false
namespace NC
open L
open Z (Nz Tz cmpv)
/-- how many bits -/
def RetBits (w : World) (er z : Int) (e : Ending) (w' : World) : Prop := ∃ n : Nat, e = .returned (.tuple #[.int .i64 n, .int .i64 er]) ∧ n ≤ 12800 ∧ Hid (er = 0 → z < 2 ^ n ∧ (n = 0 ∨ 2 ^ (n - 1) ≤ z)) ∧ Hid (er ≠ 0 → n = 0) ∧ w = w'
theorem Bits_c (v : Value) (l : List Int) (w : World) (hs : Sl .u32 w v l) (hl : l.length ≤ 9223372036854775807) (Ll : Lim l) : Calls Tryz.prog 52 #[v] w (RetBits w (chk l) (lv l)) := by
  have C := Lib.hid (Check_c v l w hs hl)
  obtain ⟨A, c, rfl, hc⟩ := hs.form
  obtain ⟨r, hr⟩ : ∃ r, r = chk l := ⟨_, rfl⟩
  rw [← hr] at C ⊢
  by_cases h : r = 0
  · have h1 := chk_ok.1 (hr.symm.trans h)
    by_cases hne : l = []
    · subst hne
      have e0 : (([] : List Int).length : Int) = 0 := by simp
      clear hs hl Ll hr h1
      subst h
      simp only [List.length_nil] at C hc ⊢
      go_enter Tryz.func52, Tryz.ntmps52
      go_wp2_with (first | (go_at_call 42; (with_reducible refine (C.out).mono ?_); rintro e w' ⟨rfl, rfl⟩))
      go_ret2
      exact ⟨0, rfl, by omega, fun _ => ⟨by simp [lv], .inl rfl⟩, fun h => rfl, rfl⟩
    · obtain ⟨m, hm⟩ : ∃ m, l.length = m + 1 := ⟨l.length - 1, by have := List.length_pos_iff.2 hne; omega⟩
      obtain ⟨ad, c', e, hc', _, hcell⟩ := hs.at_ m (by omega)
      injection e with e1 e2 e3
      subst e1
      have htop : 0 < l.getD m 0 := by
        have h2 := h1.2 hne
        rw [List.getLast_eq_getElem] at h2
        have h3 : l.getD m 0 = l[l.length - 1]'(by omega) := by
          rw [List.getD_eq_getElem?_getD, List.getElem?_eq_getElem (by omega)]
          simp [hm]
        have := Ll.at_ m
        rw [h3] at this ⊢
        omega
      have bt := Ll.at_ m
      obtain ⟨t1, t2⟩ := top_bd Ll hm
      obtain ⟨n, hn1, hn2, hn3, hn4⟩ := bitLen_bd (l.getD m 0) htop (by omega)
      have LN := Len32_c (l.getD m 0) w (by omega) (by omega)
      rw [hn1] at LN
      have LN := Lib.hid LN
      have hp := pow_pos m
      have b1 : lv l < 2 ^ (32 * m + n + 1) := by
        rw [show 32 * m + n + 1 = 32 * m + (n + 1) by omega, Int.pow_add, ← pow_two]
        exact Int.lt_of_lt_of_le t2 (Int.mul_le_mul_of_nonneg_left (by omega) (Int.le_of_lt hp))
      have b2 : 2 ^ (32 * m + n) ≤ lv l := by
        rw [Int.pow_add, ← pow_two]
        exact Int.le_trans (Int.mul_le_mul_of_nonneg_left hn3 (Int.le_of_lt hp)) t1
      have HB := Lib.hid (And.intro b1 b2)
      have hm4 : m + 1 ≤ 400 := by have := h1.1; omega
      rw [hm] at hc C ⊢
      generalize l.getD m 0 = tp at *
      clear hs hl Ll hr h1 hne hm htop t1 t2 hn1 hn3 hn4 b1 b2 hp e2 e3 hc'
      subst h
      have e1 : ((m : Int) + 1 == 0) = false := by simp; omega
      go_enter Tryz.func52, Tryz.ntmps52
      go_wp2_with (first | (go_at_call 42; (with_reducible refine (C.out).mono ?_); rintro e w' ⟨rfl, rfl⟩) | (go_at_call 83; (with_reducible refine (LN.out).mono ?_); rintro e w' ⟨rfl, rfl⟩))
      go_ret2
      refine ⟨32 * m + n + 1, ?_, by omega, fun _ => ⟨HB.out.1, .inr (by simpa using HB.out.2)⟩, fun h => absurd rfl h, rfl⟩
      have e5 : ((32 * m + n + 1 : Nat) : Int) = (m : Int) * 32 + ((n : Int) + 1) := by omega
      rw [e5]
      rfl
  · have e1 : (r != 0) = true := by simp [h]
    clear hs hl Ll hr
    have H := Lib.hid h
    clear h
    go_enter Tryz.func52, Tryz.ntmps52
    go_wp2_with (first | (go_at_call 42; (with_reducible refine (C.out).mono ?_); rintro e w' ⟨rfl, rfl⟩))
    go_ret2
    exact ⟨0, rfl, by omega, fun h => absurd h H.out, fun _ => rfl, rfl⟩
/-- a root, and whether something is left -/
def RetRt (w : World) (er z : Int) (e : Ending) (w' : World) : Prop :=
  ∃ A n c b R, e = .returned (.tuple #[.slice A n c, .bool b, .int .i64 er]) ∧ NV w' (.slice A n c) R ∧ Below w.heap.size w w' ∧ Hid (er = 0 → R * R ≤ z ∧ z < (R + 1) * (R + 1) ∧ 0 ≤ R ∧ b = decide (R * R ≠ z)) ∧ Hid (er ≠ 0 → R = 0 ∧ b = false)
theorem Root_c (v : Value) (l : List Int) (w : World) (hs : Sl .u32 w v l) (hl : l.length ≤ 9223372036854775807) (Ll : Lim l) : Calls Tryz.prog 19 #[v] w (RetRt w (chk l) (lv l)) := by
  have C := Lib.hid (Bits_c v l w hs hl Ll)
  have HSQ : Hid (chk l = 0 → ∀ n : Nat, lv l < 2 ^ n → (n = 0 ∨ 2 ^ (n - 1) ≤ lv l) → n ≤ 12800 → Calls Tryz.prog 53 #[v, .int .i64 n] w (RetSq w (lv l))) := fun h n h1 h2 h3 =>
    squareRoot_c v l n w hs Ll (chk_ok.1 h).1 h1 h2 h3
  obtain ⟨A, c, rfl, hc⟩ := hs.form
  obtain ⟨r, hr⟩ : ∃ r, r = chk l := ⟨_, rfl⟩
  rw [← hr] at C HSQ ⊢
  generalize lv l = z at *
  generalize l.length = x at *
  clear hs hl Ll hr
  by_cases h : r = 0
  · subst h
    go_enter Tryz.func19, Tryz.ntmps19
    go_wp2_with (first | (go_at_call 52; (with_reducible refine (C.out).mono ?_); rintro e w1 ⟨n, rfl, hn, h1, h2, rfl⟩ ; have SQ := Lib.hid (HSQ.out rfl n (h1.out rfl).1 (h1.out rfl).2 hn)) | (go_at_call 53; (with_reducible refine (SQ.out).mono ?_); rintro e w2 ⟨A1, n1, c1, A2, n2, c2, R, re, rfl, hv1, hv2, hq, hb⟩))
    go_ret3
    refine ⟨A1, n1, c1, _, R, rfl, hv1, hb, fun _ => ?_, fun h => absurd rfl h⟩
    obtain ⟨q1, q2, q3, q4⟩ := hq.out
    refine ⟨by omega, by rw [← q1]; grind, q4, ?_⟩
    by_cases hre : re = 0
    · have e2 : n2 = 0 := by
        obtain ⟨L, s1, s2, s3, s4⟩ := hv2
        have e := lv_inj s2 Lim.nil s3 (by intro h; exact absurd rfl h) (s4.trans (hre.trans (show (0 : Int) = lv [] from rfl)))
        have := s1.len_.1
        rw [this, e]; rfl
      subst e2
      have : R * R = z := by omega
      simp [this]
    · have e2 : 0 < n2 := by
        obtain ⟨L, s1, s2, s3, s4⟩ := hv2
        rcases Nat.eq_zero_or_pos n2 with h | h
        · exfalso
          have h5 := s1.len_.1
          rw [h] at h5
          have := List.eq_nil_of_length_eq_zero h5.symm
          rw [this] at s4
          exact hre s4.symm
        · exact h
      have : R * R ≠ z := by omega
      simp [this, e2]
  · have e1 : (r != 0) = true := by simp [h]
    have H := Lib.hid h
    clear h
    go_enter Tryz.func19, Tryz.ntmps19
    go_wp2_with (first | (go_at_call 52; (with_reducible refine (C.out).mono ?_); rintro e w1 ⟨n, rfl, hn, h1, h2, rfl⟩))
    go_ret3
    exact ⟨none, 0, 0, false, 0, rfl, NV.nil _ _ _, Below.refl _ _, fun h => absurd h H.out, fun _ => ⟨rfl, rfl⟩⟩
end NC
end Go.Proofs.YtpmjeipdldnnbaaGreatDoor

/-
  Strings as lists of bytes; the decimal text of a number.
-/
namespace Go.Proofs.YtpmjeipdldnnbaaGreatDoor
set_option linter.unusedVariables false
set_option linter.unusedSimpArgs false
open Go.RowKit
set_option linter.unusedVariables false
def bs (L : List UInt8) : ByteArray := ⟨L.toArray⟩
end Go.Proofs.YtpmjeipdldnnbaaGreatDoor

/-
  Plain mathematics: decimal digits, the lowest first; noughts at the end; a list turned round in place; division by a limb.
-/
namespace Go.Proofs.YtpmjeipdldnnbaaGreatDoor.L
set_option linter.unusedVariables false
set_option linter.unusedSimpArgs false
open Z (Nz Tz cmpv)
/-- division by one limb under way, from the highest one on -/
structure DbI (X : List Int) (q : Int) (k : Nat) (M : List Int) (r : Int) : Prop where
  len : M.length = X.length
  lim : Lim M
  r0 : 0 ≤ r
  r1 : r < q
  rest : ∀ j, j < k → M.getD j 0 = X.getD j 0
  sum : lv (M.drop k) * q + r = lv (X.drop k)
theorem DbI.start {X : List Int} {q : Int} (h : Lim X) (h0 : 0 < q) : DbI X q X.length X 0 := ⟨rfl, h, by omega, h0, fun _ _ => rfl, by simp [lv]⟩
theorem DbI.step {X M : List Int} {q r x : Int} {k : Nat} (h : DbI X q (k + 1) M r) (hk : k < X.length) (hx : X.getD k 0 = x) (x0 : 0 ≤ x) (x1 : x < 4294967296) :
    DbI X q k (M.set k ((r * 4294967296 + x) / q)) ((r * 4294967296 + x) % q) ∧ (r * 4294967296 + x) / q < 4294967296 ∧ 0 ≤ (r * 4294967296 + x) / q := by
  have r0 := h.r0
  have r1 := h.r1
  have hq : 0 < q := by omega
  have e := Int.emod_add_mul_ediv (r * 4294967296 + x) q
  have z0 : 0 ≤ (r * 4294967296 + x) / q := Int.ediv_nonneg (by omega) (by omega)
  have z1 : (r * 4294967296 + x) / q < 4294967296 := by rw [Int.ediv_lt_iff_lt_mul hq]; omega
  refine ⟨⟨by simp [h.len], h.lim.set _ z0 z1, Int.emod_nonneg _ (by omega), Int.emod_lt_of_pos _ hq, fun j hj => ?_, ?_⟩, z1, z0⟩
  · rw [getD_set (by rw [h.len]; exact hk), if_neg (by omega)]; exact h.rest j (by omega)
  · have hkM : k < M.length := by rw [h.len]; exact hk
    have e1 := lv_drop (L := M.set k ((r * 4294967296 + x) / q)) k (by simp [h.len]; exact hk)
    rw [getD_set (by rw [h.len]; exact hk), if_pos rfl, show (M.set k ((r * 4294967296 + x) / q)).drop (k + 1) = M.drop (k + 1) by rw [List.drop_set, if_pos (by omega)]] at e1
    rw [e1, lv_drop (L := X) k hk, hx, ← h.sum]
    grind
theorem DbI.done {X M : List Int} {q r : Int} (h : DbI X q 0 M r) : lv M = lv X / q ∧ r = lv X % q := by
  have e := h.sum
  simp only [List.drop_zero] at e
  have r0 := h.r0
  have r1 := h.r1
  rw [← e]
  refine ⟨?_, ?_⟩
  · rw [Int.add_comm, Int.add_mul_ediv_right _ _ (by omega), Int.ediv_eq_zero_of_lt r0 r1]; omega
  · rw [Int.add_comm, Int.add_mul_emod_self_right, Int.emod_eq_of_lt r0 r1]
/-- a list being turned round in place -/
structure RvI (X : List Int) (i : Nat) (M : List Int) : Prop where
  len : M.length = X.length
  cell : ∀ t, t < X.length → M.getD t 0 = if t < i ∨ X.length - 1 - i < t then X.getD (X.length - 1 - t) 0 else X.getD t 0
theorem RvI.start (X : List Int) : RvI X 0 X := ⟨rfl, fun t ht => by rw [if_neg (by omega)]⟩
theorem RvI.step {X M : List Int} {i : Nat} (h : RvI X i M) (hi : 2 * i + 1 < X.length) : RvI X (i + 1) ((M.set i (M.getD (X.length - 1 - i) 0)).set (X.length - 1 - i) (M.getD i 0)) := by
  have hl := h.len
  have hl1 : (M.set i (M.getD (X.length - 1 - i) 0)).length = X.length := by simp [hl]
  refine ⟨by simp [hl], fun t ht => ?_⟩
  rw [getD_set (by omega), getD_set (by omega)]
  have c1 := h.cell i (by omega)
  have c2 := h.cell (X.length - 1 - i) (by omega)
  rw [if_neg (by omega)] at c1 c2
  by_cases e1 : t = X.length - 1 - i
  · subst e1
    rw [if_pos rfl, if_pos (by omega), c1]
    congr 1; omega
  · rw [if_neg e1]
    by_cases e2 : t = i
    · subst e2
      rw [if_pos rfl, if_pos (by omega), c2]
    · rw [if_neg e2, h.cell t ht]
      by_cases e3 : t < i ∨ X.length - 1 - i < t
      · rw [if_pos e3, if_pos (by omega)]
      · rw [if_neg e3, if_neg (by omega)]
theorem RvI.done {X M : List Int} {i : Nat} (h : RvI X i M) (hi : X.length ≤ 2 * i + 1) : M = X.reverse := by
  have hl := h.len
  apply List.ext_getElem (by simp [hl])
  intro t h1 h2
  have c := h.cell t (by omega)
  rw [List.getElem_reverse]
  rw [List.getD_eq_getElem?_getD, List.getElem?_eq_getElem (by omega)] at c
  by_cases e : t < i ∨ X.length - 1 - i < t
  · rw [if_pos e, List.getD_eq_getElem?_getD, List.getElem?_eq_getElem (by omega)] at c
    exact c
  · rw [if_neg e, List.getD_eq_getElem?_getD, List.getElem?_eq_getElem (by omega)] at c
    have : X.length - 1 - t = t := by omega
    simp only [this]
    exact c
end Go.Proofs.YtpmjeipdldnnbaaGreatDoor.L

/-
  Package nat: divideBy; bytes.TrimRight and slices.Reverse of bytes.
-/
namespace Go.Proofs.YtpmjeipdldnnbaaGreatDoor
set_option linter.unusedVariables false
set_option linter.unusedSimpArgs false
open Go.RowKit
set_option linter.unusedVariables false
namespace NC
open L
open Z (Nz Tz cmpv)
abbrev OwnB (w : World) (base : Nat) (v : Value) (X : List Int) : Prop := Own .u8 5 w base v X
section
variable {w : World} {base g n c : Nat} {X : List Int}
theorem OwnB.cell (h : OwnB w base (.slice (some ⟨g, 0, none⟩) n c) X) (j : Nat) (hj : j < X.length) : w.cell? ⟨g, j, none⟩ = some (.int .u8 (X.getD j 0)) := by
  have hn : n = X.length := (Own.sl h).len_.1
  subst hn
  have := World.ownsRow.cellAt h j (by omega)
  rw [this, List.getElem?_map, List.getD_eq_getElem?_getD, List.getElem?_eq_getElem hj]; rfl
theorem OwnB.frozen (h : OwnB w base (.slice (some ⟨g, 0, none⟩) n c) X) (j : Nat) : w.frozen? ⟨g, j, none⟩ = false := by
  have hn : n = X.length := (Own.sl h).len_.1
  subst hn
  exact World.ownsRow.frozenAt h j
theorem OwnB.set_ (h : OwnB w base (.slice (some ⟨g, 0, none⟩) n c) X) (j : Nat) (z : Int) : OwnB (w.setCell ⟨g, j, none⟩ (.int .u8 z)) base (.slice (some ⟨g, 0, none⟩) n c) (X.set j z) := by
  have hn : n = X.length := (Own.sl h).len_.1
  subst hn
  have := (World.ownsRow.stored h j (.int .u8 z)).1
  unfold OwnB Own
  rw [List.map_set, List.length_set]
  exact this
theorem OwnB.take {A : Option Addr} {n c m : Nat} (h : OwnB w base (.slice A n c) X) (hm : m ≤ n) (hA : A ≠ none) : OwnB w base (.slice A m c) (X.take m) := by
  have hn : n = X.length := (Own.sl h).len_.1
  have hl : (X.take m).length = m := by rw [List.length_take, ← hn]; exact Nat.min_eq_left hm
  unfold OwnB Own
  rw [hl]
  refine ⟨by rw [List.length_map, hl]; omega, ?_⟩
  rcases h.2 with ⟨e, _⟩ | ⟨g, cap, cur, e, hg, hgg, hc, hmx, hsz, htk⟩
  · injection e with e1; exact absurd e1 hA
  · injection e with e1 e2 e3
    subst e1 e3
    refine .inr ⟨g, _, cur, rfl, hg, hgg, by omega, hmx, hsz, ?_⟩
    rw [List.map_take, ← htk, List.take_take, Nat.mul_one, Nat.mul_one, Nat.min_eq_left (by omega)]
end
end NC
end Go.Proofs.YtpmjeipdldnnbaaGreatDoor

/-
  Package nat: Text.
-/
namespace Go.Proofs.YtpmjeipdldnnbaaGreatDoor
set_option linter.unusedVariables false
set_option linter.unusedSimpArgs false
open Go.RowKit
set_option linter.unusedVariables false
namespace NC
open L
open Z (Nz Tz cmpv)
theorem Head.kept {w w' : World} {B g c : Nat} {l : List Int} {row : Option Nat} (h : Head w B g c l) (hg : w.grownBy w' row) (hr : row ≠ some g) : Head w' B g c l := by
  obtain ⟨h1, h2, cs, hb, hw⟩ := h
  exact ⟨h1, h2, cs, Blk.grown hb hg (fun e => hr e.symm), hw⟩
theorem Head.alloc {w : World} {B g c : Nat} {l : List Int} (h : Head w B g c l) (o : Obj) : Head (w.alloc o) B g c l := by
  obtain ⟨h1, h2, cs, hb, hw⟩ := h
  exact ⟨h1, h2, cs, hb.alloc o, hw⟩
theorem Head.lt {w : World} {B g c : Nat} {l : List Int} (h : Head w B g c l) : g < w.heap.size := by
  obtain ⟨_, _, cs, hb, _⟩ := h
  exact hb.lt
/-- a rest of limbs that is being divided -/
structure RM (w : World) (B g n c : Nat) (z : Nat) (M : List Int) : Prop where
  h : Head w B g c M
  n : M.length = n
  l : Lim M
  nz : Nz M
  eq : lv M = z
theorem Head.take {w : World} {B g c m : Nat} {l : List Int} (h : Head w B g c l) (hm : m ≤ l.length) : Head w B g c (l.take m) := by
  obtain ⟨h1, h2, cs, hb, hw⟩ := h
  refine ⟨h1, by rw [List.length_take]; omega, cs, hb, fun j hj => ?_⟩
  rw [List.length_take] at hj
  rw [hw j (by omega), List.getD_eq_getElem?_getD, List.getD_eq_getElem?_getD, List.getElem?_take, if_pos (by omega)]
end NC
end Go.Proofs.YtpmjeipdldnnbaaGreatDoor

/-
  ulpkeep.ok: true just where all errors handed in are OK; it only reads.
-/
namespace Go.Proofs.YtpmjeipdldnnbaaGreatDoor
set_option linter.unusedVariables false
set_option linter.unusedSimpArgs false
open Go.RowKit
set_option linter.unusedVariables false
namespace OkC
end OkC
end Go.Proofs.YtpmjeipdldnnbaaGreatDoor

/-
  slices.Equal of limbs; package nat: Shift up, and its errors; ulpkeep.natLives.
-/
namespace Go.Proofs.YtpmjeipdldnnbaaGreatDoor
set_option linter.unusedVariables false
set_option linter.unusedSimpArgs false
open Go.RowKit
set_option linter.unusedVariables false
namespace NC
open L
open Z (Nz Tz cmpv)
/-- what Shift tells -/
def RetSh (w : World) (er z : Int) (b : Bool) (e : Ending) (w' : World) : Prop := ∃ A n c, e = .returned (.tuple #[.slice A n c, .bool b, .int .i64 er]) ∧ NV w' (.slice A n c) z ∧ Below w.heap.size w w'
theorem RetSh.err {w w' : World} {er : Int} (hb : Below w.heap.size w w') : RetSh w er 0 false (.returned (.tuple #[.slice none 0 0, .bool false, .int .i64 er])) w' := ⟨none, 0, 0, rfl, NV.nil _ _ _, hb⟩
theorem ShiftErr_c (v : Value) (l : List Int) (n : Int) (w : World) (hs : Sl .u32 w v l) (hl : l.length ≤ 9223372036854775807) (h : chk l ≠ 0) : Calls Tryz.prog 14 #[v, .int .i64 n] w (RetSh w (chk l) 0 false) := by
  have C := Lib.hid (Check_c v l w hs hl)
  obtain ⟨r, hr⟩ : ∃ r, r = chk l := ⟨_, rfl⟩
  rw [← hr] at C h ⊢
  have e1 : (r != 0) = true := by simp [h]
  clear hs hl hr h
  go_enter Tryz.func14, Tryz.ntmps14
  go_wp2_with (first | (go_at_call 42; (with_reducible refine (C.out).mono ?_); rintro e w' ⟨rfl, rfl⟩))
  go_ret3
  exact RetSh.err (Below.refl _ _)
theorem ShiftFar_c (v : Value) (l : List Int) (n : Int) (w : World) (hs : Sl .u32 w v l) (hl : l.length ≤ 9223372036854775807) (h : chk l = 0) (hn : n < -20000 ∨ 20000 < n) : Calls Tryz.prog 14 #[v, .int .i64 n] w (RetSh w 1 0 false) := by
  have C := Lib.hid (Check_c v l w hs hl)
  rw [h] at C
  clear hs hl h
  rcases hn with hn | hn
  · go_enter Tryz.func14, Tryz.ntmps14
    go_wp2_with (first | (go_at_call 42; (with_reducible refine (C.out).mono ?_); rintro e w' ⟨rfl, rfl⟩))
    go_ret3
    exact RetSh.err (Below.refl _ _)
  · have h2 : ¬ n < -20000 := by omega
    go_enter Tryz.func14, Tryz.ntmps14
    go_wp2_with (first | (go_at_call 42; (with_reducible refine (C.out).mono ?_); rintro e w' ⟨rfl, rfl⟩))
    go_ret3
    exact RetSh.err (Below.refl _ _)
theorem ShiftUp_c (v : Value) (l : List Int) (n : Nat) (w : World) (hs : Sl .u32 w v l) (Ll : Lim l) (h : chk l = 0) (hn : n ≤ 20000) : Calls Tryz.prog 14 #[v, .int .i64 n] w (RetSh w 0 (lv l * 2 ^ n) false) := by
  have h1 := chk_ok.1 h
  have C := Lib.hid (Check_c v l w hs (by omega))
  have S := Lib.hid (shiftUp_c v l n w hs Ll (by omega) (by omega))
  rw [h] at C
  generalize lv l * 2 ^ n = z at *
  have h2 : ¬ (n : Int) < -20000 := by omega
  have h3 : ¬ (20000 : Int) < n := by omega
  have h4 : ¬ (n : Int) < 0 := by omega
  clear hs Ll h h1
  go_enter Tryz.func14, Tryz.ntmps14
  go_wp2_with (first | (go_at_call 42; (with_reducible refine (C.out).mono ?_); rintro e w' ⟨rfl, rfl⟩) | (go_at_call 45; (with_reducible refine (S.out).mono ?_); rintro e w2 ⟨A, m, c, rfl, hv, hb⟩))
  go_ret3
  exact ⟨A, m, c, rfl, hv, hb⟩
end NC
end Go.Proofs.YtpmjeipdldnnbaaGreatDoor

/-
  Package nat's contracts by numbers: what each argument tells, and its error.
-/
namespace Go.Proofs.YtpmjeipdldnnbaaGreatDoor
set_option linter.unusedVariables false
set_option linter.unusedSimpArgs false
open Go.RowKit
set_option linter.unusedVariables false
namespace NC
open L
open Z (Nz Tz cmpv)
/-- limbs that tell 'z', and what Check tells of them -/
def PV (w : World) (v : Value) (er z : Int) : Prop := ∃ l, Sl .u32 w v l ∧ Lim l ∧ l.length ≤ 9223372036854775807 ∧ chk l = er ∧ lv l = z
def big3 : Int := 4294967296 ^ 3000
theorem PV.below {w w' : World} {v : Value} {er z : Int} (h : PV w v er z) (hb : Below w.heap.size w w') : PV w' v er z := by
  obtain ⟨l, h1, h2⟩ := h
  exact ⟨l, h1.below hb, h2⟩
theorem PV.drewN {w : World} {v : Value} {er z : Int} (h : PV w v er z) (k : Nat) : PV (w.drewN k) v er z := h
theorem PV.nv {w : World} {v : Value} {z : Int} (h : PV w v 0 z) : NV w v z := by
  obtain ⟨l, h1, h2, h3, h4, h5⟩ := h
  exact ⟨l, h1, h2, (chk_ok.1 h4).2, h5⟩
theorem PV.small {w : World} {v : Value} {er z : Int} (h : PV w v er z) : 0 ≤ z ∧ (er = 0 → z < 4294967296 ^ 400) := by
  obtain ⟨l, h1, h2, h3, h4, h5⟩ := h
  refine ⟨by rw [← h5]; exact lv_nonneg h2, fun e => ?_⟩
  rw [e] at h4
  rw [← h5]
  exact Int.lt_of_lt_of_le (lv_lt h2) (pow_mono (chk_ok.1 h4).1)
/-- the error of limbs in normal form: too many -/
def erz (z : Int) : Int := if z < 4294967296 ^ 400 then 0 else 2
theorem NV.pv {w : World} {v : Value} {z : Int} (h : NV w v z) (hz : z < big3) : PV w v (erz z) z := by
  obtain ⟨l, h1, h2, h3, h4⟩ := h
  have hl : l.length ≤ 3000 := len_le h2 h3 (by rw [h4]; exact hz)
  refine ⟨l, h1, h2, by omega, ?_, h4⟩
  unfold erz
  by_cases hs : z < 4294967296 ^ 400
  · rw [if_pos hs]
    exact chk_ok.2 ⟨len_le h2 h3 (by rw [h4]; exact hs), h3⟩
  · rw [if_neg hs]
    unfold chk
    rw [if_pos]
    rcases Nat.lt_or_ge 400 l.length with h | h
    · exact h
    · have := Int.lt_of_lt_of_le (lv_lt h2) (pow_mono h)
      omega
/-- the first error of two -/
def ee (a b : Int) : Int := if a ≠ 0 then a else b
theorem ee0 {a b : Int} : ee a b = 0 ↔ a = 0 ∧ b = 0 := by
  unfold ee
  by_cases h : a = 0
  · rw [if_neg (by simpa using h)]; simp [h]
  · rw [if_pos h]; simp [h]
theorem big3_pos : (0 : Int) < big3 := pow_pos 3000
theorem big3_bds {a b : Int} (h1 : a < 4294967296 ^ 400) (h2 : b < 4294967296 ^ 400) (h3 : 0 ≤ a) (h4 : 0 ≤ b) : a + b < big3 ∧ a * b < big3 ∧ a < big3 ∧ b < big3 := by
  unfold big3
  have e : (4294967296 : Int) ^ 400 * 4294967296 ^ 400 = 4294967296 ^ 800 := by rw [← Int.pow_add]
  have h5 : a * b ≤ 4294967296 ^ 400 * 4294967296 ^ 400 := Int.mul_le_mul (Int.le_of_lt h1) (Int.le_of_lt h2) h4 (Int.le_of_lt (pow_pos _))
  have h6 : (4294967296 : Int) ^ 801 = 4294967296 ^ 800 * 4294967296 := Int.pow_succ _ _
  have h7 := pow_pos 800
  have h8 : (4294967296 : Int) ^ 801 ≤ 4294967296 ^ 3000 := pow_mono (by decide)
  have h9 : (4294967296 : Int) ^ 400 ≤ 4294967296 ^ 800 := pow_mono (by decide)
  generalize (4294967296 : Int) ^ 3000 = c3000 at *
  generalize (4294967296 : Int) ^ 801 = c801 at *
  generalize (4294967296 : Int) ^ 800 = c800 at *
  generalize (4294967296 : Int) ^ 400 = c400 at *
  rw [e] at h5
  omega
/-- limbs that are the result of a call, and an error -/
def RetP (w : World) (er z : Int) (e : Ending) (w' : World) : Prop := ∃ A n c, e = .returned (.tuple #[.slice A n c, .int .i64 er]) ∧ PV w' (.slice A n c) (erz z) z ∧ NV w' (.slice A n c) z ∧ Below w.heap.size w w'
theorem RetL.p {w w' : World} {er z : Int} {e : Ending} (h : RetL w er z e w') (hz : z < big3) : RetP w er z e w' := by
  obtain ⟨A, n, c, rfl, hv, hb⟩ := h
  exact ⟨A, n, c, rfl, hv.pv hz, hv, hb⟩
theorem Add_p {u v : Value} {e1 e2 a b : Int} {w : World} (h1 : PV w u e1 a) (h2 : PV w v e2 b) : Calls Tryz.prog 100 #[u, v] w (RetP w (ee e1 e2) (if ee e1 e2 = 0 then a + b else 0)) := by
  have s1 := h1.small
  have s2 := h2.small
  obtain ⟨l, l1, l2, l3, l4, l5⟩ := h1
  obtain ⟨m, m1, m2, m3, m4, m5⟩ := h2
  have hc : chk2 l m = ee e1 e2 := by unfold chk2 ee; rw [l4, m4]
  have h := Add_c u v l m w l1 m1 l3 m3 l2 m2
  rw [hc, l5, m5] at h
  refine h.mono fun e w' h => RetL.p h ?_
  by_cases h0 : ee e1 e2 = 0
  · rw [if_pos h0]
    have h3 := ee0.1 h0
    exact (big3_bds (s1.2 h3.1) (s2.2 h3.2) s1.1 s2.1).1
  · rw [if_neg h0]; exact big3_pos
def es (e1 e2 a b : Int) : Int := if ee e1 e2 = 0 then (if a < b then 1 else 0) else ee e1 e2
theorem Sub_p {u v : Value} {e1 e2 a b : Int} {w : World} (h1 : PV w u e1 a) (h2 : PV w v e2 b) : Calls Tryz.prog 101 #[u, v] w (RetP w (es e1 e2 a b) (if es e1 e2 a b = 0 then a - b else 0)) := by
  have s1 := h1.small
  have s2 := h2.small
  obtain ⟨l, l1, l2, l3, l4, l5⟩ := h1
  obtain ⟨m, m1, m2, m3, m4, m5⟩ := h2
  have hc : errSub l m = es e1 e2 a b := by unfold errSub es chk2 ee; rw [l4, m4, l5, m5]
  have h := Sub_c u v l m w l1 m1 l3 m3 l2 m2
  rw [hc, l5, m5] at h
  refine h.mono fun e w' h => RetL.p h ?_
  by_cases h0 : es e1 e2 a b = 0
  · rw [if_pos h0]
    unfold es at h0
    by_cases h4 : ee e1 e2 = 0
    · have h3 := ee0.1 h4
      have := (big3_bds (s1.2 h3.1) (s2.2 h3.2) s1.1 s2.1).2.2.1
      omega
    · rw [if_neg h4] at h0; exact absurd h0 h4
  · rw [if_neg h0]; exact big3_pos
def ed (e1 e2 b : Int) : Int := if ee e1 e2 ≠ 0 then ee e1 e2 else if b = 0 then 1 else 0
def RetDP (w : World) (er q r : Int) (e : Ending) (w' : World) : Prop := ∃ A n c A' n' c', e = .returned (.tuple #[.slice A n c, .slice A' n' c', .int .i64 er]) ∧ PV w' (.slice A n c) (erz q) q ∧ PV w' (.slice A' n' c') (erz r) r ∧ NV w' (.slice A n c) q ∧ NV w' (.slice A' n' c') r ∧ Below w.heap.size w w'
theorem Div_p {u v : Value} {e1 e2 a b : Int} {w : World} (h1 : PV w u e1 a) (h2 : PV w v e2 b) : Calls Tryz.prog 15 #[u, v] w (RetDP w (ed e1 e2 b) (if ed e1 e2 b = 0 then a / b else 0) (if ed e1 e2 b = 0 then a % b else 0)) := by
  have s1 := h1.small
  have s2 := h2.small
  obtain ⟨l, l1, l2, l3, l4, l5⟩ := h1
  obtain ⟨m, m1, m2, m3, m4, m5⟩ := h2
  have hc : errDiv l m = ed e1 e2 b := by
    unfold errDiv ed
    have hc2 : chk2 l m = ee e1 e2 := by unfold chk2 ee; rw [l4, m4]
    rw [hc2]
    by_cases h0 : ee e1 e2 = 0
    · have h3 := ee0.1 h0
      rw [h0]
      simp only [ne_eq, not_true_eq_false, if_false]
      rw [h3.2] at m4
      have hz : m = [] ↔ b = 0 := by
        constructor
        · intro e; rw [← m5, e]; rfl
        · intro e
          rcases Classical.em (m = []) with h | h
          · exact h
          · have a1 := lv_ge m2 (chk_ok.1 m4).2 h
            have a2 := pow_pos (m.length - 1)
            omega
      by_cases h4 : m = []
      · rw [if_pos h4, if_pos (hz.1 h4)]
      · rw [if_neg h4, if_neg (fun e => h4 (hz.2 e))]
    · rw [if_pos h0, if_pos h0]
  have h := Div_c u v l m w l1 m1 l3 m3 l2 m2
  rw [hc, l5, m5] at h
  refine h.mono fun e w' h => ?_
  obtain ⟨A, n, c, A', n', c', rfl, hq, hr, hb⟩ := h
  have hbd : (if ed e1 e2 b = 0 then a / b else 0) < big3 ∧ (if ed e1 e2 b = 0 then a % b else 0) < big3 := by
    by_cases h0 : ed e1 e2 b = 0
    · rw [if_pos h0, if_pos h0]
      unfold ed at h0
      by_cases h4 : ee e1 e2 = 0
      · have h3 := ee0.1 h4
        rw [if_neg (by simpa using h4)] at h0
        have hb0 : b ≠ 0 := by intro e; rw [if_pos e] at h0; cases h0
        have h5 := (big3_bds (s1.2 h3.1) (s2.2 h3.2) s1.1 s2.1)
        have h6 := Int.ediv_le_self b s1.1
        have h7 := Int.emod_lt_of_pos a (show 0 < b by omega)
        omega
      · rw [if_pos h4] at h0; exact absurd h0 h4
    · rw [if_neg h0, if_neg h0]; exact ⟨big3_pos, big3_pos⟩
  exact ⟨A, n, c, A', n', c', rfl, hq.pv hbd.1, hr.pv hbd.2, hq, hr, hb⟩
/-- a root -/
def RetRP (w : World) (er z : Int) (e : Ending) (w' : World) : Prop :=
  ∃ A n c b R, e = .returned (.tuple #[.slice A n c, .bool b, .int .i64 er]) ∧ NV w' (.slice A n c) R ∧ Below w.heap.size w w' ∧ Hid (er = 0 → R * R ≤ z ∧ z < (R + 1) * (R + 1) ∧ 0 ≤ R ∧ b = decide (R * R ≠ z)) ∧ Hid (er ≠ 0 → R = 0 ∧ b = false)
theorem Root_p {u : Value} {e1 a : Int} {w : World} (h1 : PV w u e1 a) : Calls Tryz.prog 19 #[u] w (RetRP w e1 a) := by
  obtain ⟨l, l1, l2, l3, l4, l5⟩ := h1
  have h := Root_c u l w l1 l3 l2
  rwa [l4, l5] at h
/-- limbs laid down in new memory -/
theorem PV.lit (w : World) (l : List Int) (hl : Lim l) (hn : l.length ≤ 9223372036854775807) : PV (w.alloc (.cells (l.map (Value.int .u32)).toArray 102)) (.slice (some ⟨w.heap.size, 0, none⟩) l.length l.length) (chk l) (lv l) :=
  ⟨l, Row.sl (L := l) (Blk.new w 102 _) _ (Nat.le_refl _), hl, hn, rfl, rfl⟩
end NC
end Go.Proofs.YtpmjeipdldnnbaaGreatDoor

/-
  Numbers that are a whole number times a power of two: their form, the errors, sums and products; pure.
-/
namespace Go.Proofs.YtpmjeipdldnnbaaGreatDoor
set_option linter.unusedVariables false
set_option linter.unusedSimpArgs false
open Go.RowKit
set_option linter.unusedVariables false
namespace DC
open L NC
/-- a Dyad's number: its error (of Check), the mantissa with its sign, the exponent -/
structure Dy where
  er : Int
  m : Int
  x : Int
/-- what a call tells: its error, its Dyad -/
structure Re where
  e : Int
  d : Dy
def dz : Dy := ⟨0, 0, 0⟩
/-- the bounds -/
def inb (m x : Int) : Prop := m < 4294967296 ^ 400 ∧ -(4294967296 ^ 400) < m ∧ -10000 ≤ x ∧ x ≤ 10000
instance (m x : Int) : Decidable (inb m x) := by unfold inb; infer_instance
/-- how often a number is twice another one -/
def tw : Nat → Nat → Nat
  | 0, _ => 0
  | f + 1, n => if n % 2 = 1 then 0 else tw f (n / 2) + 1
def tz (m : Int) : Nat := tw m.natAbs m.natAbs
def fin (m x : Int) : Re := if m = 0 then ⟨0, dz⟩ else if inb (m / 2 ^ tz m) (x + tz m) then ⟨0, 0, m / 2 ^ tz m, x + tz m⟩ else ⟨2, dz⟩
/-- the form -/
def can (m x : Int) : Prop := (m = 0 ∧ x = 0) ∨ m % 2 = 1
def Good (d : Dy) : Prop := d.er = 0 → can d.m d.x ∧ inb d.m d.x
theorem two_pos' (n : Nat) : (0 : Int) < 2 ^ n := Int.pow_pos (by decide)
theorem tw_spec : ∀ (f n : Nat), 0 < n → n ≤ f → (n / 2 ^ tw f n) % 2 = 1 ∧ n % 2 ^ tw f n = 0 := by
  intro f
  induction f with
  | zero => intro n h1 h2; omega
  | succ f ih =>
    intro n h1 h2
    unfold tw
    by_cases h : n % 2 = 1
    · rw [if_pos h]; simp [h, Nat.mod_one]
    · rw [if_neg h]
      have h3 := ih (n / 2) (by omega) (by omega)
      rw [Nat.pow_succ, Nat.mul_comm, ← Nat.div_div_eq_div_mul, Nat.mod_mul]
      refine ⟨h3.1, ?_⟩
      rw [h3.2]; omega
theorem tz_spec {m : Int} (h : m ≠ 0) : ∃ o : Int, m = o * 2 ^ tz m ∧ o % 2 = 1 := by
  obtain ⟨h1, h2⟩ := tw_spec m.natAbs m.natAbs (by omega) (Nat.le_refl _)
  have h3 : m.natAbs = (m.natAbs / 2 ^ tz m) * 2 ^ tz m := by
    have := Nat.div_add_mod m.natAbs (2 ^ tz m)
    unfold tz at this ⊢
    rw [h2, Nat.mul_comm] at this
    omega
  have h1' : (m.natAbs / 2 ^ tz m) % 2 = 1 := h1
  generalize m.natAbs / 2 ^ tz m = q at h3 h1'
  have h4 : (m.natAbs : Int) = (q : Int) * 2 ^ tz m := by
    have := congrArg (Nat.cast (R := Int)) h3
    rw [Int.natCast_mul, Int.natCast_pow] at this
    exact this
  by_cases hm : 0 ≤ m
  · exact ⟨q, by rw [← h4]; omega, by omega⟩
  · exact ⟨-q, by rw [Int.neg_mul, ← h4]; omega, by omega⟩
theorem odd_unique {o p : Int} {j k : Nat} (h : o * 2 ^ j = p * 2 ^ k) (ho : o % 2 = 1) (hp : p % 2 = 1) : o = p ∧ j = k := by
  have key : ∀ (o p : Int) (j k : Nat), j ≤ k → o * 2 ^ j = p * 2 ^ k → o % 2 = 1 → o = p ∧ j = k := by
    intro o p j k hjk h ho
    obtain ⟨d, rfl⟩ : ∃ d, k = j + d := ⟨k - j, by omega⟩
    rw [Int.pow_add, Int.mul_comm (2 ^ j), ← Int.mul_assoc] at h
    have h1 := Int.eq_of_mul_eq_mul_right (Int.ne_of_gt (two_pos' j)) h
    rcases Nat.eq_zero_or_pos d with rfl | hd
    · simp at h1; exact ⟨h1, rfl⟩
    · exfalso
      obtain ⟨d', rfl⟩ : ∃ d', d = d' + 1 := ⟨d - 1, by omega⟩
      rw [Int.pow_succ, ← Int.mul_assoc] at h1
      omega
  rcases Nat.le_total j k with hjk | hjk
  · exact key o p j k hjk h ho
  · have := key p o k j hjk h.symm hp
    exact ⟨this.1.symm, this.2.symm⟩
theorem odd_ne {o : Int} (h : o % 2 = 1) : o ≠ 0 := by omega
theorem tz_of {o : Int} {k : Nat} (ho : o % 2 = 1) : tz (o * 2 ^ k) = k ∧ o * 2 ^ k / 2 ^ k = o ∧ o * 2 ^ k ≠ 0 := by
  have hne : o * 2 ^ k ≠ 0 := Int.mul_ne_zero (odd_ne ho) (Int.ne_of_gt (two_pos' k))
  obtain ⟨p, h1, h2⟩ := tz_spec hne
  have := odd_unique h1 ho h2
  exact ⟨this.2.symm, Int.mul_ediv_cancel _ (Int.ne_of_gt (two_pos' k)), hne⟩
theorem fin_zero (x : Int) : fin 0 x = ⟨0, dz⟩ := by unfold fin; rw [if_pos rfl]
theorem fin_of {m o x : Int} {k : Nat} (h : m = o * 2 ^ k) (ho : o % 2 = 1) : fin m x = if inb o (x + k) then ⟨0, 0, o, x + k⟩ else ⟨2, dz⟩ := by
  subst h
  have := tz_of (k := k) ho
  unfold fin
  rw [if_neg this.2.2, this.1, this.2.1]
theorem fin_good (m x : Int) : Good (fin m x).d ∧ (fin m x).d.er = 0 ∧ ((fin m x).e ≠ 0 → (fin m x).d = dz) := by
  by_cases h : m = 0
  · subst h; rw [fin_zero]; exact ⟨fun _ => ⟨.inl ⟨rfl, rfl⟩, by decide +kernel⟩, rfl, fun h => rfl⟩
  · obtain ⟨o, h1, h2⟩ := tz_spec h
    rw [fin_of h1 h2]
    by_cases hi : inb o (x + tz m)
    · rw [if_pos hi]; exact ⟨fun _ => ⟨.inr h2, hi⟩, rfl, fun h => absurd rfl h⟩
    · rw [if_neg hi]; exact ⟨fun _ => ⟨.inl ⟨rfl, rfl⟩, by decide +kernel⟩, rfl, fun h => rfl⟩
/-- the value, in very small units -/
def sc (m x : Int) : Int := m * 2 ^ (x + 60000).toNat
theorem sc_shift (m x : Int) (k : Nat) (hx : -60000 ≤ x) : sc (m * 2 ^ k) x = sc m (x + k) := by
  unfold sc
  rw [Int.mul_assoc, ← Int.pow_add]
  congr 2; omega
theorem fin_sc {m x : Int} (hx : -60000 ≤ x) (h : (fin m x).e = 0) : sc (fin m x).d.m (fin m x).d.x = sc m x := by
  by_cases h0 : m = 0
  · subst h0; rw [fin_zero]; show 0 * _ = 0 * _; rw [Int.zero_mul, Int.zero_mul]
  · obtain ⟨o, h1, h2⟩ := tz_spec h0
    rw [fin_of h1 h2] at h ⊢
    by_cases hi : inb o (x + tz m)
    · rw [if_pos hi]
      have := sc_shift o x (tz m) hx
      rw [← h1] at this
      exact this.symm
    · rw [if_neg hi] at h; cases h
theorem sc_zero {m x : Int} : sc m x = 0 ↔ m = 0 := by
  unfold sc
  constructor
  · intro h; rcases Int.mul_eq_zero.1 h with h | h
    · exact h
    · exact absurd h (Int.ne_of_gt (two_pos' _))
  · rintro rfl; simp
theorem sc_inj {m x m' x' : Int} (h : sc m x = sc m' x') (c : can m x) (c' : can m' x') (hx : -60000 ≤ x) (hx' : -60000 ≤ x') : m = m' ∧ x = x' := by
  rcases c with ⟨rfl, rfl⟩ | c
  · rw [sc_zero.2 rfl] at h
    rcases c' with ⟨rfl, rfl⟩ | c'
    · exact ⟨rfl, rfl⟩
    · exact absurd (sc_zero.1 h.symm) (odd_ne c')
  · rcases c' with ⟨rfl, rfl⟩ | c'
    · rw [sc_zero.2 rfl] at h
      exact absurd (sc_zero.1 h) (odd_ne c)
    · have := odd_unique h c c'
      exact ⟨this.1, by omega⟩
/-- both in units of the lesser exponent -/
def lv2 (a b : Dy) : Int := a.m * 2 ^ (a.x - min a.x b.x).toNat
theorem sc_add (m n x : Int) : sc (m + n) x = sc m x + sc n x := by unfold sc; rw [Int.add_mul]
theorem sc_neg (m x : Int) : sc (-m) x = -sc m x := by unfold sc; rw [Int.neg_mul]
theorem sc_mul {m n x y : Int} (hx : -10000 ≤ x) (hy : -10000 ≤ y) {k : Nat} (hk : k = 60000) : sc (m * n) (x + y) * 2 ^ k = sc m x * sc n y := by
  unfold sc
  obtain ⟨i, hi⟩ : ∃ i : Nat, (x + 60000).toNat = i := ⟨_, rfl⟩
  obtain ⟨j, hj⟩ : ∃ j : Nat, (y + 60000).toNat = j := ⟨_, rfl⟩
  rw [hi, hj]
  have e : (x + y + 60000).toNat + k = i + j := by omega
  rw [Int.mul_assoc, ← Int.pow_add, e, Int.pow_add]
  grind
theorem sc_lt {m n x : Int} : sc m x < sc n x ↔ m < n := by
  unfold sc
  have := two_pos' (x + 60000).toNat
  constructor
  · intro h; exact Int.lt_of_mul_lt_mul_right h (Int.le_of_lt this)
  · intro h; exact Int.mul_lt_mul_of_pos_right h this
/-- sums, products, shifts -/
def neg (d : Dy) : Dy := ⟨d.er, -d.m, d.x⟩
def sum (a b : Dy) : Re := fin (lv2 a b + lv2 b a) (min a.x b.x)
def Add (a b : Dy) : Re := if ee a.er b.er ≠ 0 then ⟨ee a.er b.er, dz⟩ else sum a b
def Sub (a b : Dy) : Re := if ee a.er b.er ≠ 0 then ⟨ee a.er b.er, dz⟩ else sum a (neg b)
def Mul (a b : Dy) : Re := if ee a.er b.er ≠ 0 then ⟨ee a.er b.er, dz⟩ else fin (a.m * b.m) (a.x + b.x)
end DC
end Go.Proofs.YtpmjeipdldnnbaaGreatDoor

