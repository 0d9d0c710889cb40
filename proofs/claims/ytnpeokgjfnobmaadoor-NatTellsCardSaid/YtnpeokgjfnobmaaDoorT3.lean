/-
  Texts glued together for a claim: N6 NShP N7 N8 NDivP N9 NDivQ NLen N10 NRootP N11 N12 N13 N14 NTextP N15 N16.
-/
import Derived.Test.YtnpeokgjfnobmaaDoorT2
import Derived.Lib.BitFns
import Derived.Lib.Small
import Derived.Lib.Strings
import Derived.Lib.Slices
import Derived.Lib.Walk
import Derived.OneCell
import Derived.Laws.IdiomStrings
/-
  Package nat: Sub, Mul.
-/
namespace Go.Proofs.YtnpeokgjfnobmaaDoor
set_option linter.unusedVariables false
set_option linter.unusedSimpArgs false
open Go.RowKit
set_option linter.unusedVariables false
namespace NC
open L
open Z (Nz Tz cmpv)
def RetRow0 (w : World) (g n c : Nat) (z : Int) (e : Ending) (w' : World) : Prop := ∃ M, e = .returned (.tuple #[]) ∧ w.grownBy w' (some g) ∧ Hid (Sl .u32 w' (.slice (some ⟨g, 0, none⟩) n c) M ∧ M.length = n ∧ Lim M ∧ lv M = z)
theorem subFrom_head (B g c : Nat) (l m : List Int) (vb : Value) (w : World) (hH : Head w B g c l) (hY : SlA .u32 w vb m g) (Ll : Lim l) (Lm : Lim m) (nm : Nz m) (hle : lv m ≤ lv l) (hN : l.length ≤ 1000000000) :
    Calls Tryd.prog 86 #[.slice (some ⟨g, 0, none⟩) l.length c, vb] w (RetRow0 w g l.length c (lv l - lv m)) := by
  obtain ⟨hB, hc, cs, hb, hw⟩ := hH
  have hlen : m.length ≤ l.length := by
    rcases Nat.lt_or_ge l.length m.length with h | h
    · have := lv_len Ll Lm nm h; omega
    · exact h
  refine (subFrom_c g 0 l.length c cs l m vb w hb hw rfl hY Ll Lm hlen hN hc hle).mono fun e w' h => ?_
  obtain ⟨M, rfl, hE, hL, hv⟩ := h
  have hS := hE.sl c hc
  rw [hE.len] at hS
  exact ⟨M, rfl, hE.grown, hS, hE.len, hL, hv.out⟩
theorem Sub_c (u v : Value) (l m : List Int) (w : World) (hs : Sl .u32 w u l) (ht : Sl .u32 w v m) (hl : l.length ≤ 9223372036854775807) (hm : m.length ≤ 9223372036854775807) (Ll : Lim l) (Lm : Lim m) :
    Calls Tryd.prog 110 #[u, v] w (RetL w (errSub l m) (if errSub l m = 0 then lv l - lv m else 0)) := by
  have C := Lib.hid (checkBoth_c u v l m w hs ht hl hm)
  by_cases h : chk2 l m = 0
  · have h1 := (chk2_ok.1 h)
    have h2 := chk_ok.1 h1.1
    have h3 := chk_ok.1 h1.2
    have P := Lib.hid (compare_c u v l m w hs ht Ll Lm h2.2 h3.2 (by omega) (by omega))
    have HC := Lib.hid (clone_c u l)
    obtain ⟨A, c, rfl, hc⟩ := hs.form
    obtain ⟨B, d, rfl, hd⟩ := ht.form
    rw [h] at C
    by_cases hlt : lv l < lv m
    · have he : errSub l m = 1 := by unfold errSub; rw [if_pos h, if_pos hlt]
      rw [he, if_neg (by decide)]
      rw [Z.cmpv_lt hlt] at P
      clear hs ht hl hm Ll Lm h h1 h2 h3 hlt he hc hd HC
      go_enter Tryd.func110, Tryd.ntmps110
      go_wp2_with (first | (go_at_call 100; (with_reducible refine (C.out).mono ?_); rintro e w' ⟨rfl, rfl⟩) | (go_at_call 85; (with_reducible refine (P.out).mono ?_); rintro e w2 ⟨rfl, k, rfl⟩))
      go_ret2
      exact RetL.err ⟨rfl, rfl, rfl, Nat.le_refl _, fun _ _ => rfl⟩
    · have he : errSub l m = 0 := by unfold errSub; rw [if_pos h, if_neg hlt]
      rw [he, if_pos rfl]
      have q0 := Z.cmpv_ge0 hlt
      generalize cmpv (lv l) (lv m) = q at P q0
      have e1 : decide (q < 0) = false := by simp; omega
      have HS := Lib.hid hs
      have HT := Lib.hid ht
      have LL := Lib.hid Ll
      have LM := Lib.hid Lm
      have HLE : Hid (lv m ≤ lv l) := Int.not_lt.1 hlt
      have H2 := Lib.hid h2
      have H3 := Lib.hid h3
      obtain ⟨x, ex⟩ : ∃ x, x = l.length := ⟨_, rfl⟩
      obtain ⟨y, ey⟩ : ∃ y, y = m.length := ⟨_, rfl⟩
      rw [← ex] at hc C HS P HC ⊢
      rw [← ey] at hd C HT P ⊢
      have EX := Lib.hid ex
      clear hs ht hl hm Ll Lm h h1 h2 h3 hlt he q0 ex ey
      go_enter Tryd.func110, Tryd.ntmps110
      go_wp2_with (first | (go_at_call 100; (with_reducible refine (C.out).mono ?_); rintro e w' ⟨rfl, rfl⟩) | (go_at_call 85; (with_reducible refine (P.out).mono ?_); rintro e w2 ⟨rfl, k, rfl⟩) | (go_at_call 57; (with_reducible refine (HC.out (w.drewN k) (HS.out.drewN k) (by have := H2.out.1; have := EX.out; omega)).mono ?_); rintro e w3 ⟨g, c3, rfl, hH3, hB3⟩ ; have hg3 : w.heap.size ≤ g := hH3.out.1 ; have HT3 := SlA.old (HT.out.drewN k) hB3 hg3) | (go_at_call 86; (with_reducible refine (subFrom_head _ g c3 l m _ w3 hH3.out HT3 LL.out LM.out H3.out.2 HLE.out (by have := H2.out.1; omega)).mono ?_); rintro e w4 ⟨M, rfl, hg4, h4⟩) | (go_at_call 58; (with_reducible refine (trim_c _ _ _ M _ h4.out.1 (by have := h4.out.2.1; have := H2.out.1; omega)).mono ?_); rintro e w5 ⟨m5, rfl, hm5, hz5, hv5, rfl⟩))
      go_ret2
      have hB0 : Below w.heap.size w w3 := ⟨hB3.os, hB3.tape, hB3.output, hB3.size, hB3.block⟩
      exact ⟨_, _, _, rfl, trimmed (L := M) (by rw [h4.out.2.1]; exact h4.out.1) hm5 h4.out.2.2.1 hz5 hv5 h4.out.2.2.2, hB0.grown hg4 hB0.size fun k hk => by injection hk with hk; have := hH3.out.1; exact hk ▸ this⟩
  · have he : errSub l m = chk2 l m := by unfold errSub; rw [if_neg h]
    obtain ⟨r, hr⟩ : ∃ r, r = chk2 l m := ⟨_, rfl⟩
    rw [he]
    rw [← hr] at C h ⊢
    have e1 : (r != 0) = true := by simp [h]
    rw [if_neg h]
    clear hs ht hl hm Ll Lm hr h he
    go_enter Tryd.func110, Tryd.ntmps110
    go_wp2_with (first | (go_at_call 100; (with_reducible refine (C.out).mono ?_); rintro e w' ⟨rfl, rfl⟩))
    go_ret2
    exact RetL.err (Below.refl _ _)
theorem Mul_c (u v : Value) (l m : List Int) (w : World) (hs : Sl .u32 w u l) (ht : Sl .u32 w v m) (hl : l.length ≤ 9223372036854775807) (hm : m.length ≤ 9223372036854775807) (Ll : Lim l) (Lm : Lim m) :
    Calls Tryd.prog 80 #[u, v] w (RetL w (chk2 l m) (if chk2 l m = 0 then lv l * lv m else 0)) := by
  have C := Lib.hid (checkBoth_c u v l m w hs ht hl hm)
  obtain ⟨r, hr⟩ : ∃ r, r = chk2 l m := ⟨_, rfl⟩
  rw [← hr] at C ⊢
  by_cases h : r = 0
  · have h1 := (chk2_ok.1 (hr.symm.trans h))
    have h2 := chk_ok.1 h1.1
    have h3 := chk_ok.1 h1.2
    rw [if_pos h]
    obtain ⟨A, c, rfl, hc⟩ := hs.form
    obtain ⟨B, d, rfl, hd⟩ := ht.form
    have HS := Lib.hid hs
    have HT := Lib.hid ht
    have LL := Lib.hid Ll
    have LM := Lib.hid Lm
    obtain ⟨x, ex⟩ : ∃ x, x = l.length := ⟨_, rfl⟩
    obtain ⟨y, ey⟩ : ∃ y, y = m.length := ⟨_, rfl⟩
    rw [← ex] at hc h2 C HS ⊢
    rw [← ey] at hd h3 C HT ⊢
    have x4 : x ≤ 400 := h2.1
    have y4 : y ≤ 400 := h3.1
    have hmk := run_make_row' (P := Tryd.prog) 22 56 (.int .u32 0) 4 Tryd.underlying22 (by kernel_rfl) rfl .i64 .i64 (x + y) (by omega) (by omega)
    rw [show ((x + y : Nat) : Int) = (x : Int) + y by omega] at hmk
    have EX := Lib.hid ex
    have EY := Lib.hid ey
    clear hs ht hl hm Ll Lm hr h1 h2 h3 ex ey
    subst h
    go_enter Tryd.func80, Tryd.ntmps80
    go_wp2_with (first | (go_at_call 100; (with_reducible refine (C.out).mono ?_); rintro e w' ⟨rfl, rfl⟩))
    clear hmk
    go_loopw [24] (fun iv wr => ∃ (i : Nat) (P : List Int), iv = .int .i64 i ∧ i ≤ x ∧ Hid (MulN l m (x + y) i P) ∧ Hid (Row .u32 56 wr w.heap.size P) ∧ Hid (Below w.heap.size w wr)) (fun iv _ => x - (intOf iv).toNat)
    case atStart => exact ⟨0, _, rfl, by omega, MulN.start _ _ _, Row.new' _ _ _ _ rfl, (Below.refl _ _).alloc (Nat.le_refl _) _⟩
    case round =>
      obtain ⟨i, P, rfl, hi, hI, hR, hB⟩ := hrel
      by_cases hix : i < x
      · obtain ⟨adx, cx, exx, _, _, hcx⟩ := (HS.out.below hB.out).at_ i (by rw [← EX.out]; exact hix)
        injection exx with ex1 ex2 ex3
        subst ex1
        obtain ⟨q, hq⟩ : ∃ q, l.getD i 0 = q := ⟨_, rfl⟩
        have bq := LL.out.at_ i
        rw [hq] at hcx bq
        have HQ := Lib.hid hq
        clear hq ex2 ex3
        have hpl := hI.out.len
        have hfr := hR.out.frozen (i + y)
        have AT := addTimes_c w.heap.size i (x + y - i) (x + y - i) _ (P.drop i) m _ q wr hR.out (by have := Wn.part P i (P.length - i); rwa [List.take_of_length_le (by simp)] at this) (by simp [hpl]) (SlA.old HT.out hB.out (Nat.le_refl _)) (hI.out.lim.drop i) LM.out (by rw [← EY.out]; omega) (by omega) (Nat.le_refl _) bq
        have AT := Lib.hid AT
        have HPL := Lib.hid hpl
        clear hpl
        go_wp2_with (first | (go_at_call 101; (with_reducible refine (AT.out).mono ?_); rintro e w2 ⟨M, k, rfl, hE, hLM, k0, k1, hv⟩ ; have fr2 := hE.frozen (i + y) ; have cl2 := hE.cell y (by omega) ; have HE := Lib.hid hE ; have HLM := Lib.hid hLM ; clear hE hLM))
        have hR2 := HE.out.row (by rw [HPL.out]; omega)
        have hcut : (P.drop (i + (x + y - i))) = [] := List.drop_of_length_le (by rw [HPL.out]; omega)
        rw [hcut, List.append_nil] at hR2
        have hI2 := hI.out.step (by rw [← EY.out]; omega) HQ.out HE.out.len HLM.out k0 k1 hv.out.1 hv.out.2
        rw [← EY.out] at hI2
        exact ⟨⟨i + 1, _, by simp, by omega, hI2, hR2.set_ _ _, (HE.out.below hB.out (Nat.le_refl _) hB.out.size).setCell (Nat.le_refl _) _⟩, by simp only [intOf]; omega⟩
      · obtain rfl : x = i := by omega
        have hpl := hI.out.len
        have hS := hR.out.sl (x + y) (by omega)
        have T := trim_c (some ⟨w.heap.size, 0, none⟩) (x + y) (x + y) P wr (by rw [hpl] at hS; exact hS) (by omega)
        have T := Lib.hid T
        have HS2 := Lib.hid hS
        have hv : lv P = lv l * lv m := by rw [hI.out.val, List.take_of_length_le (by rw [← EX.out]; exact Nat.le_refl _)]
        have HV := Lib.hid hv
        clear hpl hS hv
        go_wp2_with (first | (go_at_call 58; (with_reducible refine (T.out).mono ?_); rintro e w5 ⟨m5, rfl, hm5, hz5, hv5, rfl⟩))
        go_ret2
        exact ⟨_, _, _, rfl, trimmed HS2.out hm5 hI.out.lim hz5 hv5 HV.out, hB.out⟩
  · have e1 : (r != 0) = true := by simp [h]
    rw [if_neg h]
    clear hs ht hl hm Ll Lm hr h
    go_enter Tryd.func80, Tryd.ntmps80
    go_wp2_with (first | (go_at_call 100; (with_reducible refine (C.out).mono ?_); rintro e w' ⟨rfl, rfl⟩))
    go_ret2
    exact RetL.err (Below.refl _ _)
end NC
end Go.Proofs.YtnpeokgjfnobmaaDoor

/-
  Plain mathematics: limbs shifted up and down.
-/
namespace Go.Proofs.YtnpeokgjfnobmaaDoor.L
set_option linter.unusedVariables false
set_option linter.unusedSimpArgs false
open Z (Nz Tz cmpv)
theorem two_pos (r : Nat) : (0 : Int) < 2 ^ r := Int.pow_pos (by decide)
theorem two_split {r : Nat} (hr : r ≤ 32) : ∃ p' : Int, 0 < p' ∧ 2 ^ r * p' = 4294967296 :=
  ⟨2 ^ (32 - r), two_pos _, by rw [← Int.pow_add, show r + (32 - r) = 32 by omega]; decide⟩
theorem sh_low {q : Int} {r : Nat} (hr : r ≤ 32) (h0 : 0 ≤ q) (h1 : q < 4294967296) :
    0 ≤ (q * 2 ^ r) % 4294967296 ∧ (q * 2 ^ r) % 4294967296 + 2 ^ r ≤ 4294967296 ∧ (q * 2 ^ r) % 4294967296 % 2 ^ r = 0 ∧ 0 ≤ (q * 2 ^ r) / 4294967296 ∧ (q * 2 ^ r) / 4294967296 < 2 ^ r := by
  obtain ⟨p', hp', e⟩ := two_split hr
  have hp := two_pos r
  have e1 : (q * 2 ^ r) % 4294967296 = 2 ^ r * (q % p') := by
    conv => lhs; rw [← e]
    rw [Int.mul_comm q, Int.mul_emod_mul_of_pos _ _ hp]
  have h2 := Int.emod_nonneg q (show p' ≠ 0 by omega)
  have h3 := Int.emod_lt_of_pos q hp'
  have h4 : 2 ^ r * (q % p' + 1) ≤ 2 ^ r * p' := Int.mul_le_mul_of_nonneg_left (by omega) (Int.le_of_lt hp)
  have h5 : 0 ≤ 2 ^ r * (q % p') := Int.mul_nonneg (Int.le_of_lt hp) h2
  refine ⟨by omega, by rw [e1]; grind, by rw [e1]; exact Int.mul_emod_right _ _, Int.ediv_nonneg (Int.mul_nonneg h0 (Int.le_of_lt hp)) (by decide), ?_⟩
  rw [Int.ediv_lt_iff_lt_mul (by decide), Int.mul_comm]
  exact Int.mul_lt_mul_of_pos_left h1 hp
/-- shifting up under way: so many limbs of l have been put s limbs and r bits higher -/
structure ShU (l : List Int) (s r N i : Nat) (P : List Int) : Prop where
  len : P.length = N
  lim : Lim P
  val : lv P = 4294967296 ^ s * (2 ^ r * lv (l.take i))
  low : P.getD (s + i) 0 < 2 ^ r
  zero : ∀ j, s + i < j → P.getD j 0 = 0
theorem ShU.start (l : List Int) (s r N : Nat) : ShU l s r N 0 (List.replicate N 0) :=
  ⟨by simp, Lim.rep _, by rw [lv_rep]; simp [lv], by rw [Z.getD_rep]; exact two_pos r, fun j _ => Z.getD_rep _ _⟩
theorem ShU.or_ {l P : List Int} {s r N i : Nat} {q : Int} (h : ShU l s r N i P) (hr : r ≤ 32) (h0 : 0 ≤ q) (h1 : q < 4294967296) :
    bits .or .u32 (P.getD (s + i) 0) ((q * 2 ^ r) % 4294967296) = P.getD (s + i) 0 + (q * 2 ^ r) % 4294967296 := by
  obtain ⟨a1, a2, a3, _⟩ := sh_low hr h0 h1
  have := two_pos r
  exact or_low _ _ r hr (h.lim.at_ _).1 h.low a1 a3 (by omega)
theorem ShU.step {l P : List Int} {s r N i : Nat} {q : Int} (h : ShU l s r N i P) (hr : r ≤ 32) (hi : s + i + 1 < N) (hq : l.getD i 0 = q) (h0 : 0 ≤ q) (h1 : q < 4294967296) :
    ShU l s r N (i + 1) ((P.set (s + i) (P.getD (s + i) 0 + (q * 2 ^ r) % 4294967296)).set (s + i + 1) ((q * 2 ^ r) / 4294967296)) := by
  obtain ⟨a1, a2, a3, a4, a5⟩ := sh_low hr h0 h1
  have b := h.lim.at_ (s + i)
  have hlow := h.low
  have h32 : (2 : Int) ^ r ≤ 4294967296 := by omega
  have hl1 : (P.set (s + i) (P.getD (s + i) 0 + (q * 2 ^ r) % 4294967296)).length = N := by simp [h.len]
  have hP : s + i < P.length := by rw [h.len]; omega
  refine ⟨by simp [h.len], (h.lim.set _ (by omega) (by omega)).set _ a4 (by omega), ?_, ?_, fun j hj => ?_⟩
  · rw [lv_set _ _ _ (by omega), lv_set _ _ _ hP, getD_set hP, if_neg (by omega), h.zero (s + i + 1) (by omega), lv_take_succ, hq, h.val]
    have e := Int.emod_add_mul_ediv (q * 2 ^ r) 4294967296
    have e2 : (4294967296 : Int) ^ (s + i) * ((q * 2 ^ r) % 4294967296 + 4294967296 * ((q * 2 ^ r) / 4294967296)) = 4294967296 ^ (s + i) * (q * 2 ^ r) := by rw [e]
    rw [Int.pow_succ]
    rw [Int.pow_add] at e2 ⊢
    grind
  · rw [getD_set (by omega), if_pos (by omega)]; exact a5
  · rw [getD_set (by omega), if_neg (by omega), getD_set hP, if_neg (by omega)]; exact h.zero _ (by omega)
/-- shifting down under way -/
structure ShD (l : List Int) (s r N i : Nat) (P : List Int) : Prop where
  len : P.length = N
  lim : Lim P
  val : lv (P.take i) + 4294967296 ^ i * (lv (l.drop (s + i)) / 2 ^ r) = lv (l.drop s) / 2 ^ r
theorem ShD.start (l : List Int) (s r N : Nat) : ShD l s r N 0 (List.replicate N 0) := ⟨by simp, Lim.rep _, by simp [lv]⟩
theorem down_limb {r : Nat} (hr : r ≤ 32) {a a' D : Int} (h0 : 0 ≤ a) (h1 : a < 4294967296) (h2 : 0 ≤ a') (h3 : a' < 4294967296) :
    (a + 4294967296 * (a' + 4294967296 * D)) / 2 ^ r = ((a + 4294967296 * a') / 2 ^ r) % 4294967296 + 4294967296 * ((a' + 4294967296 * D) / 2 ^ r) := by
  obtain ⟨p', hp', e⟩ := two_split hr
  have hp := two_pos r
  generalize (2 : Int) ^ r = p at *
  have hpn : p ≠ 0 := by omega
  have e1 : (a + 4294967296 * a') / p = a / p + p' * a' := by
    rw [← e, Int.mul_assoc, Int.add_mul_ediv_left _ _ hpn]
  have e2 : (a + 4294967296 * (a' + 4294967296 * D)) / p = a / p + p' * (a' + 4294967296 * D) := by
    conv => lhs; rw [← e, Int.mul_assoc, Int.add_mul_ediv_left _ _ hpn]
    rw [e]
  have e3 : (a' + 4294967296 * D) / p = a' / p + p' * D := by
    rw [← e, Int.mul_assoc, Int.add_mul_ediv_left _ _ hpn]
  have e4 := Int.emod_add_mul_ediv a' p
  have v0 := Int.emod_nonneg a' hpn
  have v1 := Int.emod_lt_of_pos a' hp
  have w0 : 0 ≤ a / p := Int.ediv_nonneg h0 (Int.le_of_lt hp)
  have w1 : a / p < p' := by rw [Int.ediv_lt_iff_lt_mul hp, Int.mul_comm, e]; exact h1
  have e5 : (a + 4294967296 * a') / p % 4294967296 = a / p + p' * (a' % p) := by
    rw [e1]
    have : a / p + p' * a' = (a / p + p' * (a' % p)) + 4294967296 * (a' / p) := by rw [← e]; grind
    rw [this, Int.add_mul_emod_self_left]
    refine Int.emod_eq_of_lt (Int.add_nonneg w0 (Int.mul_nonneg (Int.le_of_lt hp') v0)) ?_
    have : p' * (a' % p + 1) ≤ p' * p := Int.mul_le_mul_of_nonneg_left (by omega) (Int.le_of_lt hp')
    rw [← e]; grind
  rw [e5, e2, e3, ← e]
  grind
theorem ShD.step {l P : List Int} {s r N i : Nat} {a a' : Int} (h : ShD l s r N i P) (hl : Lim l) (hr : r ≤ 32) (hi : i < N) (hN : N = l.length - s) (ha : l.getD (s + i) 0 = a) (ha' : l.getD (s + i + 1) 0 = a') :
    ShD l s r N (i + 1) (P.set i (((a + 4294967296 * a') / 2 ^ r) % 4294967296)) := by
  have b := hl.at_ (s + i)
  have b' := hl.at_ (s + i + 1)
  rw [ha] at b
  rw [ha'] at b'
  refine ⟨by simp [h.len], h.lim.set _ (Int.emod_nonneg _ (by decide)) (Int.emod_lt_of_pos _ (by decide)), ?_⟩
  rw [lv_take_succ, getD_set (by rw [h.len]; exact hi), if_pos rfl, List.take_set_of_le (Nat.le_refl _), ← h.val, Int.pow_succ]
  have e1 := lv_drop (L := l) (s + i) (by omega)
  have e2 : lv (l.drop (s + i + 1)) = a' + 4294967296 * lv (l.drop (s + i + 1 + 1)) := by
    rcases Nat.lt_or_ge (s + i + 1) l.length with h | h
    · rw [lv_drop _ h, ha']
    · rw [List.drop_of_length_le h, List.drop_of_length_le (by omega), ← ha', Z.getD_out h]; rfl
  rw [ha, e2] at e1
  rw [show s + (i + 1) = s + i + 1 by omega, e2, e1, down_limb hr b.1 b.2 b'.1 b'.2]
  grind
theorem lv_div (l : List Int) (hl : Lim l) (s : Nat) (hs : s ≤ l.length) : lv (l.drop s) = lv l / 4294967296 ^ s := by
  have h := lv_cut l s hs
  have h1 := lv_lt (hl.take s)
  rw [List.length_take, Nat.min_eq_left hs] at h1
  have h2 := lv_nonneg (hl.take s)
  rw [h, Int.add_mul_ediv_left _ _ (by have := pow_pos s; omega), Int.ediv_eq_zero_of_lt h2 h1]; omega
theorem pow_n (n : Nat) : (2 : Int) ^ n = 4294967296 ^ (n / 32) * 2 ^ (n % 32) := by
  rw [pow_two, ← Int.pow_add, show 32 * (n / 32) + n % 32 = n by omega]
theorem ShU.done {l P : List Int} {n N : Nat} (h : ShU l (n / 32) (n % 32) N l.length P) : lv P = lv l * 2 ^ n := by
  rw [h.val, List.take_length, pow_n n]; grind
theorem ShD.done {l P : List Int} {n N : Nat} (hl : Lim l) (hN : N = l.length - n / 32) (hs : n / 32 ≤ l.length) (h : ShD l (n / 32) (n % 32) N N P) : lv P = lv l / 2 ^ n := by
  have := h.val
  rw [lv_take_all (by rw [h.len]; exact Nat.le_refl _), List.drop_of_length_le (by omega)] at this
  rw [pow_n, ← Int.ediv_ediv_of_nonneg (Int.le_of_lt (pow_pos _)), ← lv_div l hl _ hs, ← this]
  simp [lv]
theorem down_none {l : List Int} (hl : Lim l) {n : Nat} (h : l.length ≤ n / 32) : lv l / 2 ^ n = 0 := by
  refine Int.ediv_eq_zero_of_lt (lv_nonneg hl) (Int.lt_of_lt_of_le (lv_lt hl) ?_)
  rw [pow_n]
  have h1 := pow_mono h
  have h2 : (4294967296 : Int) ^ (n / 32) * 1 ≤ 4294967296 ^ (n / 32) * 2 ^ (n % 32) := Int.mul_le_mul_of_nonneg_left (by have := two_pos (n % 32); omega) (Int.le_of_lt (pow_pos _))
  omega
end Go.Proofs.YtnpeokgjfnobmaaDoor.L

/-
  Package nat: shiftUp, shiftDown.
-/
namespace Go.Proofs.YtnpeokgjfnobmaaDoor
set_option linter.unusedVariables false
set_option linter.unusedSimpArgs false
open Go.RowKit
set_option linter.unusedVariables false
namespace NC
open L
open Z (Nz Tz cmpv)
theorem shiftUp_c (v : Value) (l : List Int) (n : Nat) (w : World) (hs : Sl .u32 w v l) (Ll : Lim l) (hl : l.length ≤ 1000000) (hn : n ≤ 1000000) :
    Calls Tryd.prog 55 #[v, .int .i64 n] w (RetV w (lv l * 2 ^ n)) := by
  obtain ⟨A, c, rfl, hc⟩ := hs.form
  have HS := Lib.hid hs
  have LL := Lib.hid Ll
  obtain ⟨x, ex⟩ : ∃ x, x = l.length := ⟨_, rfl⟩
  obtain ⟨s, es⟩ : ∃ s, s = n / 32 := ⟨_, rfl⟩
  obtain ⟨r, er⟩ : ∃ r, r = n % 32 := ⟨_, rfl⟩
  have hs1 : ((n : Int) / 32) = (s : Int) := by omega
  have hr1 : ((n : Int) % 32) = (r : Int) := by omega
  have hr2 : r < 32 := by omega
  have hs2 : s ≤ 100000 := by omega
  rw [← ex] at hc hl HS ⊢
  have EX := Lib.hid ex
  have hmk := run_make_row' (P := Tryd.prog) 22 56 (.int .u32 0) 4 Tryd.underlying22 (by kernel_rfl) rfl .i64 .i64 (s + x + 1) (by omega) (by omega)
  rw [show ((s + x + 1 : Nat) : Int) = (s : Int) + x + 1 by omega] at hmk
  have hD : ∀ N P, ShU l s r N x P → lv P = lv l * 2 ^ n := fun N P h => ShU.done (N := N) (by rw [← es, ← er, ← ex]; exact h)
  have HD := Lib.hid hD
  generalize lv l * 2 ^ n = zz at HD ⊢
  clear hs Ll ex es er hD
  go_enter Tryd.func55, Tryd.ntmps55
  go_wp2
  clear hmk
  go_loopw [23] (fun iv wr => ∃ (i : Nat) (P : List Int), iv = .int .i64 i ∧ i ≤ x ∧ Hid (ShU l s r (s + x + 1) i P) ∧ Hid (Row .u32 56 wr w.heap.size P) ∧ Hid (Below w.heap.size w wr)) (fun iv _ => x - (intOf iv).toNat)
  case atStart => exact ⟨0, _, rfl, by omega, ShU.start _ _ _ _, Row.new' _ _ _ _ rfl, (Below.refl _ _).alloc (Nat.le_refl _) _⟩
  case round =>
    obtain ⟨i, P, rfl, hi, hI, hR, hB⟩ := hrel
    by_cases hix : i < x
    · obtain ⟨adx, cx, exx, _, _, hcx⟩ := (HS.out.below hB.out).at_ i (by rw [← EX.out]; exact hix)
      injection exx with ex1 ex2 ex3
      subst ex1
      obtain ⟨q, hq⟩ : ∃ q, l.getD i 0 = q := ⟨_, rfl⟩
      have bq := LL.out.at_ i
      rw [hq] at hcx bq
      have hpl := hI.out.len
      have hc1 := hR.out.at_ (s + i) (by omega)
      have hc2 := hR.out.at_ (s + i + 1) (by omega)
      have hf1 := hR.out.frozen (s + i)
      have hf2 := hR.out.frozen (s + i + 1)
      have hor := hI.out.or_ (show r ≤ 32 by omega) bq.1 bq.2
      have hst := hI.out.step (show r ≤ 32 by omega) (by omega) hq bq.1 bq.2
      obtain ⟨a1, a2, a3, a4, a5⟩ := sh_low (show r ≤ 32 by omega) bq.1 bq.2
      have tp := two_pos r
      obtain ⟨p, hp⟩ : ∃ p, P.getD (s + i) 0 = p := ⟨_, rfl⟩
      have bp := hI.out.lim.at_ (s + i)
      have t0 : 0 ≤ q * 2 ^ r := Int.mul_nonneg bq.1 (by omega)
      have t1 : q * 2 ^ r < 18446744073709551616 := by omega
      have hwr : IntKind.u64.wrap (q * 2 ^ r) = q * 2 ^ r := Go.u64_wrap_id _ t0 t1
      rw [hp] at hc1 hor hst bp
      obtain ⟨t, ht⟩ : ∃ t, q * 2 ^ r = t := ⟨_, rfl⟩
      rw [ht] at hwr hor hst a1 a2 a3 a4 a5 t0 t1
      rw [← ht] at hwr
      have hwr2 : IntKind.u64.wrap (q * 2 ^ r) = t := by rw [hwr, ht]
      have HST := Lib.hid hst
      have t2 : 2 ^ r ≤ (4294967296 : Int) := by omega
      have t3 : t / 4294967296 < 4294967296 := by omega
      have t4 : t / 4294967296 % 4294967296 = t / 4294967296 := by omega
      clear ex2 ex3 hst hwr hp ht a1 a2 a3 tp hq a4 a5 t2
      go_wp2
      exact ⟨⟨i + 1, _, by simp, by omega, HST.out, ((hR.out.set_ (s + i) _).set_ (s + i + 1) _), ((hB.out.setCell (Nat.le_refl _) _).setCell (Nat.le_refl _) _)⟩, by simp only [intOf]; omega⟩
    · obtain rfl : x = i := by omega
      have hpl := hI.out.len
      have hS := hR.out.sl (s + x + 1) (by omega)
      have T := trim_c (some ⟨w.heap.size, 0, none⟩) (s + x + 1) (s + x + 1) P wr (by rw [hpl] at hS; exact hS) (by omega)
      have T := Lib.hid T
      have HS2 := Lib.hid hS
      have HV := Lib.hid (HD.out _ _ hI.out)
      clear hpl hS
      go_wp2_with (first | (go_at_call 58; (with_reducible refine (T.out).mono ?_); rintro e w5 ⟨m5, rfl, hm5, hz5, hv5, rfl⟩))
      go_ret
      exact ⟨_, _, _, rfl, trimmed HS2.out hm5 hI.out.lim hz5 hv5 HV.out, hB.out⟩
end NC
end Go.Proofs.YtnpeokgjfnobmaaDoor

/-
  Package nat: shiftDown.
-/
namespace Go.Proofs.YtnpeokgjfnobmaaDoor
set_option linter.unusedVariables false
set_option linter.unusedSimpArgs false
open Go.RowKit
set_option linter.unusedVariables false
namespace NC
open L
open Z (Nz Tz cmpv)
theorem shiftDown_c (v : Value) (l : List Int) (n : Nat) (w : World) (hs : Sl .u32 w v l) (Ll : Lim l) (hl : l.length ≤ 1000000) (hn : n ≤ 1000000) :
    Calls Tryd.prog 53 #[v, .int .i64 n] w (RetV w (lv l / 2 ^ n)) := by
  obtain ⟨A, c, rfl, hc⟩ := hs.form
  have HS := Lib.hid hs
  have LL := Lib.hid Ll
  obtain ⟨x, ex⟩ : ∃ x, x = l.length := ⟨_, rfl⟩
  obtain ⟨s, es⟩ : ∃ s, s = n / 32 := ⟨_, rfl⟩
  obtain ⟨r, er⟩ : ∃ r, r = n % 32 := ⟨_, rfl⟩
  have hs1 : ((n : Int) / 32) = (s : Int) := by omega
  have hr1 : ((n : Int) % 32) = (r : Int) := by omega
  have hr2 : r < 32 := by omega
  have hs2 : s ≤ 100000 := by omega
  rw [← ex] at hc hl HS ⊢
  by_cases hxs : x ≤ s
  · have hz : lv l / 2 ^ n = 0 := down_none Ll (by rw [← ex, ← es]; exact hxs)
    rw [hz]
    have e1 : decide ((s : Int) ≥ (x : Int)) = true := by simp; omega
    clear hs Ll es er hz HS LL
    clear ex
    go_enter Tryd.func53, Tryd.ntmps53
    go_wp2
    go_ret
    exact ⟨_, _, _, rfl, NV.nil _ _ _, Below.refl _ _⟩
  · have EX := Lib.hid ex
    obtain ⟨N, eN⟩ : ∃ N, N = x - s := ⟨_, rfl⟩
    have hmk := run_make_row' (P := Tryd.prog) 22 56 (.int .u32 0) 4 Tryd.underlying22 (by kernel_rfl) rfl .i64 .i64 N (by omega) (by omega)
    rw [show ((N : Nat) : Int) = (x : Int) - s by omega] at hmk
    have hD : ∀ P, ShD l s r N N P → lv P = lv l / 2 ^ n := fun P h => ShD.done (N := N) Ll (by rw [← es, ← ex]; exact eN) (by rw [← es, ← ex]; omega) (by rw [← es, ← er]; exact h)
    have HD := Lib.hid hD
    generalize lv l / 2 ^ n = zz at HD ⊢
    have hN1 : s + N = x := by omega
    have HN := Lib.hid eN
    clear hs Ll ex es er hD eN
    go_enter Tryd.func53, Tryd.ntmps53
    go_wp2
    clear hmk
    go_loopw [25] (fun iv wr => ∃ (i : Nat) (P : List Int), iv = .int .i64 i ∧ i ≤ N ∧ Hid (ShD l s r N i P) ∧ Hid (Row .u32 56 wr w.heap.size P) ∧ Hid (Below w.heap.size w wr)) (fun iv _ => N - (intOf iv).toNat)
    case atStart => exact ⟨0, _, rfl, by omega, ShD.start _ _ _ _, Row.new' _ _ _ _ rfl, (Below.refl _ _).alloc (Nat.le_refl _) _⟩
    case round =>
      obtain ⟨i, P, rfl, hi, hI, hR, hB⟩ := hrel
      by_cases hix : i < N
      · obtain ⟨adx, cx, exx, _, _, hcx⟩ := (HS.out.below hB.out).at_ (s + i) (by rw [← EX.out]; omega)
        injection exx with ex1 ex2 ex3
        subst ex1
        obtain ⟨a, ha⟩ : ∃ a, l.getD (s + i) 0 = a := ⟨_, rfl⟩
        have ba := LL.out.at_ (s + i)
        rw [ha] at hcx ba
        have hpl := hI.out.len
        have hc1 := hR.out.at_ i (by omega)
        have hf1 := hR.out.frozen i
        clear ex2 ex3
        by_cases hlast : s + i + 1 < x
        · obtain ⟨ady, cy, eyy, _, _, hcy⟩ := (HS.out.below hB.out).at_ (s + i + 1) (by rw [← EX.out]; omega)
          injection eyy with ey1 ey2 ey3
          injection ey1 with ey1
          subst ey1
          clear ey2 ey3
          obtain ⟨b, hb⟩ : ∃ b, l.getD (s + i + 1) 0 = b := ⟨_, rfl⟩
          have bb := LL.out.at_ (s + i + 1)
          rw [hb] at hcy bb
          have hst := Lib.hid (hI.out.step LL.out (show r ≤ 32 by omega) hix (by rw [← EX.out]; exact HN.out) ha hb)
          have e1 : (s : Int) + i + 1 < x := by omega
          have hcy2 : wr.cell? { block := adx.block, off := adx.off + (s + i + 1) } = some (.int .u32 b) := by have h := hcy; unfold Addr.add at h; rwa [if_neg (by omega)] at h
          have hor : bits .or .u64 a (b * 4294967296) = a + 4294967296 * b := by rw [u64_or32 a (b * 4294967296) ba.1 ba.2 (by omega) (by omega) (by omega)]; omega
          clear ha hb
          go_wp2
          exact ⟨⟨i + 1, _, by simp, by omega, hst.out, hR.out.set_ i _, hB.out.setCell (Nat.le_refl _) _⟩, by simp only [intOf]; omega⟩
        · have hst := hI.out.step LL.out (show r ≤ 32 by omega) hix (by rw [← EX.out]; exact HN.out) ha (Z.getD_out (by rw [← EX.out]; omega))
          rw [Int.mul_zero, Int.add_zero] at hst
          have hst := Lib.hid hst
          have e1 : ¬ (s : Int) + i + 1 < x := by omega
          clear ha
          go_wp2
          exact ⟨⟨i + 1, _, by simp, by omega, hst.out, hR.out.set_ i _, hB.out.setCell (Nat.le_refl _) _⟩, by simp only [intOf]; omega⟩
      · obtain rfl : N = i := by omega
        have hpl := hI.out.len
        have hS := hR.out.sl N (by omega)
        have T := trim_c (some ⟨w.heap.size, 0, none⟩) N N P wr (by rw [hpl] at hS; exact hS) (by omega)
        have T := Lib.hid T
        have HS2 := Lib.hid hS
        have HV := Lib.hid (HD.out _ hI.out)
        clear hpl hS
        go_wp2_with (first | (go_at_call 58; (with_reducible refine (T.out).mono ?_); rintro e w5 ⟨m5, rfl, hm5, hz5, hv5, rfl⟩))
        go_ret
        exact ⟨_, _, _, rfl, trimmed HS2.out hm5 hI.out.lim hz5 hv5 HV.out, hB.out⟩
end NC
end Go.Proofs.YtnpeokgjfnobmaaDoor

/-
  Plain mathematics: long division by limbs.
-/
namespace Go.Proofs.YtnpeokgjfnobmaaDoor.L
set_option linter.unusedVariables false
set_option linter.unusedSimpArgs false
open Z (Nz Tz cmpv)
/-- a guess made of the two highest limbs of the rest and the highest one of the divisor is not too small -/
theorem guess_ok {R D : List Int} {m : Nat} {g q : Int} (hR : Lim R) (hD : Lim D) (hRl : R.length = m + 2) (hDl : D.length = m + 1) (ht : 0 < D.getD m 0) (q0 : 0 ≤ q)
    (hq : q * lv D ≤ lv R) (h32 : q < 4294967296) (hg : g = min ((R.getD (m + 1) 0 * 4294967296 + R.getD m 0) / D.getD m 0) 4294967295) : q ≤ g := by
  have b1 := lv_cut R m (by omega)
  have e1 : lv (R.drop m) = R.getD m 0 + 4294967296 * R.getD (m + 1) 0 := by
    rw [lv_drop _ (by omega), lv_drop _ (by omega), List.drop_of_length_le (by omega)]; simp [lv]
  have c1 := lv_cut D m (by omega)
  have e2 : lv (D.drop m) = D.getD m 0 := by
    rw [lv_drop _ (by omega), List.drop_of_length_le (by omega)]; simp [lv]
  have h1 := lv_lt (hR.take m)
  rw [List.length_take, Nat.min_eq_left (by omega)] at h1
  have h2 := lv_nonneg (hD.take m)
  have hp := pow_pos m
  rw [e1] at b1
  rw [e2] at c1
  obtain ⟨two, htwo⟩ : ∃ t, t = R.getD (m + 1) 0 * 4294967296 + R.getD m 0 := ⟨_, rfl⟩
  rw [← htwo] at hg
  have htwo2 : R.getD m 0 + 4294967296 * R.getD (m + 1) 0 = two := by omega
  rw [htwo2] at b1
  generalize D.getD m 0 = d at *
  have h3 : 4294967296 ^ m * (q * d) < 4294967296 ^ m * (two + 1) := by
    have a1 : q * (4294967296 ^ m * d) ≤ q * lv D := Int.mul_le_mul_of_nonneg_left (by omega) q0
    have a2 : (4294967296 : Int) ^ m * (q * d) = q * (4294967296 ^ m * d) := by grind
    have a3 : (4294967296 : Int) ^ m * (two + 1) = 4294967296 ^ m * two + 4294967296 ^ m := by grind
    omega
  have h4 : q * d < two + 1 := Int.lt_of_mul_lt_mul_left h3 (Int.le_of_lt hp)
  have h5 : q ≤ two / d := by rw [Int.le_ediv_iff_mul_le ht]; omega
  omega
/-- a quotient's limb under way: the guess g, what is left of R, which reads M, and whether it is below 0 -/
structure QI (R D : List Int) (N : Nat) (g : Int) (below : Bool) (M : List Int) : Prop where
  len : M.length = N
  lim : Lim M
  g0 : 0 ≤ g
  g1 : g < 4294967296
  val : lv M = lv R - g * lv D + (if below then 4294967296 ^ N else 0)
  up : ∀ q, 0 ≤ q → q * lv D ≤ lv R → q < 4294967296 → q ≤ g ∨ lv R < (g + 1) * lv D
theorem QI.pos {R D M : List Int} {N : Nat} {g : Int} (h : QI R D N g true M) (hR : Lim R) : 0 < g := by
  have h1 := h.val
  have h2 := lv_lt h.lim
  rw [h.len] at h2
  have h3 := lv_nonneg hR
  have g0 := h.g0
  rcases Int.lt_or_eq_of_le g0 with h4 | h4
  · exact h4
  · rw [← h4] at h1; simp at h1; omega
theorem QI.step {R D M M' : List Int} {N : Nat} {g k : Int} (h : QI R D N g true M) (hR : Lim R) (hD : Lim D) (hM : M'.length = N) (lM : Lim M') (k0 : 0 ≤ k) (k1 : k ≤ 1)
    (hv : lv M' + 4294967296 ^ N * k = lv M + lv D) : QI R D N (g - 1) (k == 0) M' := by
  have h1 := h.val
  have hp := h.pos hR
  have a1 := lv_lt lM
  rw [hM] at a1
  have a2 := lv_lt h.lim
  rw [h.len] at a2
  have a3 := lv_nonneg lM
  have hD0 := lv_nonneg hD
  simp only [if_true] at h1
  have e : (g - 1) * lv D = g * lv D - lv D := by grind
  refine ⟨hM, lM, by omega, by have := h.g1; omega, ?_, fun q q0 hq q1 => ?_⟩
  · rw [e]
    rcases (by omega : k = 0 ∨ k = 1) with rfl | rfl
    · simp at hv ⊢; omega
    · simp at hv ⊢; omega
  · right
    rw [show (g - 1 + 1) * lv D = g * lv D by grind]
    omega
theorem QI.done {R D M : List Int} {N : Nat} {g : Int} (h : QI R D N g false M) (hD : 0 < lv D) (hR : Lim R) (hlt : lv R < 4294967296 * lv D) : g = lv R / lv D ∧ lv M = lv R % lv D := by
  have h1 := h.val
  simp at h1
  have h2 := lv_nonneg h.lim
  have q0 : 0 ≤ lv R / lv D := Int.ediv_nonneg (lv_nonneg hR) (Int.le_of_lt hD)
  have q1 : lv R / lv D < 4294967296 := by rw [Int.ediv_lt_iff_lt_mul hD]; exact hlt
  have e := Int.emod_add_mul_ediv (lv R) (lv D)
  have m0 := Int.emod_nonneg (lv R) (show lv D ≠ 0 by omega)
  have m1 := Int.emod_lt_of_pos (lv R) hD
  have hle : g ≤ lv R / lv D := by rw [Int.le_ediv_iff_mul_le hD]; omega
  have hge : lv R / lv D ≤ g := by
    rcases h.up _ q0 (by rw [Int.mul_comm]; omega) q1 with h3 | h3
    · exact h3
    · have : lv R / lv D < g + 1 := by rw [Int.ediv_lt_iff_lt_mul hD]; exact h3
      omega
  have eg : g = lv R / lv D := by omega
  refine ⟨eg, ?_⟩
  rw [eg] at h1
  rw [h1, Int.mul_comm]; omega
/-- dividing under way: quotient limbs from number i on are found; the rest reads P -/
structure DvI (A D : Int) (n i : Nat) (Q P : List Int) (N : Nat) : Prop where
  lenQ : Q.length = n
  limQ : Lim Q
  lenP : P.length = N
  limP : Lim P
  zero : ∀ j, j < i → Q.getD j 0 = 0
  val : A = lv Q * D + lv P
  lt : lv P < D * 4294967296 ^ i
theorem DvI.step {A D : Int} {n i m N : Nat} {Q P W : List Int} {q : Int} (h : DvI A D n (i + 1) Q P N) (hD : 0 < D) (hDm : D ≤ 4294967296 ^ m) (hi : i < n) (hN : i + m + 1 ≤ N) (hW : W.length = m + 1) (lW : Lim W)
    (hq : q = lv ((P.drop i).take (m + 1)) / D) (hw : lv W = lv ((P.drop i).take (m + 1)) % D) (q0 : 0 ≤ q) (q1 : q < 4294967296) : DvI A D n i (Q.set i q) (P.take i ++ (W ++ P.drop (i + (m + 1)))) N := by
  have hPl := h.lenP
  have e1 := lv_cut P i (by omega)
  have e2 := lv_cut (P.drop i) (m + 1) (by simp; omega)
  have hlow := lv_lt (h.limP.take i)
  rw [List.length_take, Nat.min_eq_left (by omega)] at hlow
  have hlow0 := lv_nonneg (h.limP.take i)
  have hw0 := lv_nonneg ((h.limP.drop i).take (m + 1))
  have hh0 := lv_nonneg ((h.limP.drop i).drop (m + 1))
  have hpi := pow_pos i
  have hpm := pow_pos (m + 1)
  -- the limbs above the window are noughts
  have hlt := h.lt
  have hzero : lv ((P.drop i).drop (m + 1)) = 0 := by
    rcases Int.lt_or_eq_of_le hh0 with h1 | h1
    · exfalso
      have a1 : (4294967296 : Int) ^ (m + 1) * 1 ≤ 4294967296 ^ (m + 1) * lv ((P.drop i).drop (m + 1)) := Int.mul_le_mul_of_nonneg_left (by omega) (Int.le_of_lt hpm)
      have a2 : 4294967296 ^ i * 4294967296 ^ (m + 1) ≤ 4294967296 ^ i * lv (P.drop i) := Int.mul_le_mul_of_nonneg_left (by omega) (Int.le_of_lt hpi)
      have a3 : D * 4294967296 ^ (i + 1) ≤ 4294967296 ^ m * 4294967296 ^ (i + 1) := Int.mul_le_mul_of_nonneg_right hDm (Int.le_of_lt (pow_pos _))
      have a4 : (4294967296 : Int) ^ m * 4294967296 ^ (i + 1) = 4294967296 ^ i * 4294967296 ^ (m + 1) := by rw [Int.pow_succ, Int.pow_succ]; grind
      omega
    · exact h1.symm
  rw [hzero, Int.mul_zero, Int.add_zero] at e2
  have ediv := Int.emod_add_mul_ediv (lv ((P.drop i).take (m + 1))) D
  rw [← hq, ← hw] at ediv
  have hwlt : lv W < D := by rw [hw]; exact Int.emod_lt_of_pos _ hD
  have eP : lv (P.take i ++ (W ++ P.drop (i + (m + 1)))) = lv (P.take i) + 4294967296 ^ i * lv W := by
    rw [lv_append, lv_append, List.length_take, Nat.min_eq_left (by omega), ← List.drop_drop, hzero]; simp
  refine ⟨by simp [h.lenQ], h.limQ.set _ q0 q1, by simp [hW]; omega, (h.limP.take i).app (lW.app (h.limP.drop _)), fun j hj => ?_, ?_, ?_⟩
  · rw [getD_set (by rw [h.lenQ]; exact hi), if_neg (by omega)]; exact h.zero j (by omega)
  · rw [lv_set _ _ _ (by rw [h.lenQ]; exact hi), h.zero i (by omega), eP]
    have hv := h.val
    rw [e1, e2] at hv
    rw [hv, ← ediv]; grind
  · rw [eP]
    have a1 : 4294967296 ^ i * (lv W + 1) ≤ 4294967296 ^ i * D := Int.mul_le_mul_of_nonneg_left (by omega) (Int.le_of_lt hpi)
    grind
theorem DvI.done {A D : Int} {n N : Nat} {Q P : List Int} (h : DvI A D n 0 Q P N) (hD : 0 < D) : lv Q = A / D ∧ lv P = A % D := by
  have h1 := h.val
  have h2 := h.lt
  simp at h2
  have h3 := lv_nonneg h.limP
  have e : A / D = lv Q := by
    rw [h1, Int.add_comm, Int.mul_comm, Int.add_mul_ediv_left _ _ (by omega), Int.ediv_eq_zero_of_lt h3 h2]; omega
  refine ⟨e.symm, ?_⟩
  rw [h1, Int.add_comm, Int.mul_comm, Int.add_mul_emod_self_left, Int.emod_eq_of_lt h3 h2]
/-- a window of a rest that is less than the divisor times 2^32 -/
theorem window_lt {P : List Int} {D : Int} {i m : Nat} (hP : Lim P) (hN : i + m + 1 ≤ P.length) (h : lv P < D * 4294967296 ^ (i + 1)) : lv ((P.drop i).take (m + 1)) < 4294967296 * D := by
  have e1 := lv_cut P i (by omega)
  have e2 := lv_cut (P.drop i) (m + 1) (by simp; omega)
  have hlow0 := lv_nonneg (hP.take i)
  have hh0 := lv_nonneg ((hP.drop i).drop (m + 1))
  have a1 : 0 ≤ 4294967296 ^ (m + 1) * lv ((P.drop i).drop (m + 1)) := Int.mul_nonneg (Int.le_of_lt (pow_pos _)) hh0
  have a2 : 4294967296 ^ i * lv ((P.drop i).take (m + 1)) ≤ 4294967296 ^ i * lv (P.drop i) := Int.mul_le_mul_of_nonneg_left (by omega) (Int.le_of_lt (pow_pos i))
  have a3 : (4294967296 : Int) ^ i * lv ((P.drop i).take (m + 1)) < 4294967296 ^ i * (4294967296 * D) := by
    have : D * 4294967296 ^ (i + 1) = 4294967296 ^ i * (4294967296 * D) := by rw [Int.pow_succ]; grind
    omega
  exact Int.lt_of_mul_lt_mul_left a3 (Int.le_of_lt (pow_pos i))
/-- both shifted: the same quotient, the remainder shifted -/
theorem div_shift (a b : Int) (s : Nat) (hb : 0 < b) : (a * 2 ^ s) / (b * 2 ^ s) = a / b ∧ (a * 2 ^ s) % (b * 2 ^ s) / 2 ^ s = a % b := by
  have hp := two_pos s
  refine ⟨?_, ?_⟩
  · rw [Int.mul_ediv_mul_of_pos_left _ _ hp]
  · rw [Int.mul_comm a, Int.mul_comm b, Int.mul_emod_mul_of_pos _ _ hp, Int.mul_ediv_cancel_left _ (by omega)]
/-- the length of limbs in normal form, by their value -/
theorem len_eq {L : List Int} {n : Nat} (hL : Lim L) (hn : Nz L) (h0 : 4294967296 ^ n ≤ lv L) (h1 : lv L < 4294967296 ^ (n + 1)) : L.length = n + 1 := by
  have a1 := lv_lt hL
  have hlo : n + 1 ≤ L.length := by
    rcases Nat.lt_or_ge n L.length with h | h
    · exact h
    · have := pow_mono h; omega
  have hne : L ≠ [] := by intro h; subst h; simp at hlo
  have a2 := lv_ge hL hn hne
  rcases Nat.lt_or_ge (n + 1) L.length with h | h
  · have := pow_mono (show n + 1 ≤ L.length - 1 by omega); omega
  · omega
end Go.Proofs.YtnpeokgjfnobmaaDoor.L

/-
  Package nat: subTimes, quotientLimb.
-/
namespace Go.Proofs.YtnpeokgjfnobmaaDoor
set_option linter.unusedVariables false
set_option linter.unusedSimpArgs false
open Go.RowKit
set_option linter.unusedVariables false
namespace NC
open L
open Z (Nz Tz cmpv)
theorem times_last {X Y M : List Int} {q c z : Int} {m : Nat} {b : Bool} (h : TimI (-1) X Y q m M c) (hm : m = Y.length) (hX : m < X.length) (hz : z = M.getD m 0 - c + (if b then 4294967296 else 0)) :
    lv (M.set m z) = lv X - q * lv Y + (if b then 4294967296 ^ (m + 1) else 0) := by
  have e := h.done (by omega)
  rw [lv_set _ _ _ (by rw [h.len]; exact hX), hz, Int.pow_succ]
  cases b
  · simp; grind
  · simp; grind
/-- written in place; it tells a bool -/
def RetEdB (w : World) (g : Nat) (cs : Array Value) (o n : Nat) (p : List Int → Bool → Prop) (e : Ending) (w' : World) : Prop :=
  ∃ M b, e = .returned (.bool b) ∧ Ed w w' g cs o n M ∧ Lim M ∧ Hid (p M b)
end NC
end Go.Proofs.YtnpeokgjfnobmaaDoor

/-
  Plain mathematics: long division: what is shifted first.
-/
namespace Go.Proofs.YtnpeokgjfnobmaaDoor.L
set_option linter.unusedVariables false
set_option linter.unusedSimpArgs false
open Z (Nz Tz cmpv)
theorem len_le {L : List Int} {n : Nat} (hL : Lim L) (hn : Nz L) (h1 : lv L < 4294967296 ^ n) : L.length ≤ n := by
  by_cases hne : L = []
  · subst hne; simp
  · have a2 := lv_ge hL hn hne
    rcases Nat.lt_or_ge n L.length with h | h
    · have := pow_mono (show n ≤ L.length - 1 by omega); omega
    · exact h
theorem top_bd {b : List Int} {m : Nat} (hb : Lim b) (hm : b.length = m + 1) : 4294967296 ^ m * b.getD m 0 ≤ lv b ∧ lv b < 4294967296 ^ m * (b.getD m 0 + 1) := by
  have h := lv_split b m (by omega)
  rw [List.drop_of_length_le (by omega)] at h
  have h1 := lv_lt (hb.take m)
  rw [List.length_take, Nat.min_eq_left (by omega)] at h1
  have h2 := lv_nonneg (hb.take m)
  simp only [lv, Int.mul_zero, Int.add_zero] at h
  rw [h]
  refine ⟨by omega, by grind⟩
/-- shifted so that its highest bit is the highest one of its limb, it has as many limbs -/
theorem norm_len {b D : List Int} {m n : Nat} (hb : Lim b) (hm : b.length = m + 1) (h0 : (2 : Int) ^ n ≤ b.getD m 0) (h1 : b.getD m 0 < 2 ^ (n + 1)) (hn : n < 32) (hD : Lim D) (nD : Nz D) (hv : lv D = lv b * 2 ^ (31 - n)) : D.length = m + 1 := by
  obtain ⟨t1, t2⟩ := top_bd hb hm
  have hp := pow_pos m
  have hs := two_pos (31 - n)
  have h2 := two_pos n
  have hb1 : 4294967296 ^ m * 1 ≤ lv b := Int.le_trans (Int.mul_le_mul_of_nonneg_left (by omega) (Int.le_of_lt hp)) t1
  have hb2 : lv b < 4294967296 ^ m * 2 ^ (n + 1) := Int.lt_of_lt_of_le t2 (Int.mul_le_mul_of_nonneg_left (by omega) (Int.le_of_lt hp))
  refine len_eq hD nD ?_ ?_
  · rw [hv]
    have : lv b * 1 ≤ lv b * 2 ^ (31 - n) := Int.mul_le_mul_of_nonneg_left (by omega) (lv_nonneg hb)
    omega
  · rw [hv]
    have e : (2 : Int) ^ (n + 1) * 2 ^ (31 - n) = 4294967296 := by rw [← Int.pow_add, show n + 1 + (31 - n) = 32 by omega]; decide
    have : lv b * 2 ^ (31 - n) < 4294967296 ^ m * 2 ^ (n + 1) * 2 ^ (31 - n) := Int.mul_lt_mul_of_pos_right hb2 hs
    rw [Int.mul_assoc, e] at this
    rw [Int.pow_succ]; exact this
theorem up_len {a A : List Int} {s la : Nat} (ha : Lim a) (hl : a.length = la) (hs : s ≤ 32) (hA : Lim A) (nA : Nz A) (hv : lv A = lv a * 2 ^ s) : A.length ≤ la + 1 := by
  refine len_le hA nA ?_
  have h1 := lv_lt ha
  rw [hl] at h1
  have h2 : (2 : Int) ^ s ≤ 4294967296 := by
    have : (2 : Int) ^ s ≤ 2 ^ 32 := by exact_mod_cast Nat.pow_le_pow_right (by decide : 0 < 2) hs
    exact this
  have h3 := two_pos s
  rw [hv, Int.pow_succ]
  have h4 : lv a * 2 ^ s ≤ lv a * 4294967296 := Int.mul_le_mul_of_nonneg_left h2 (lv_nonneg ha)
  omega
theorem dv_start {a b P : List Int} {s la m nq : Nat} (ha : Lim a) (hla : a.length = la) (hb : Lim b) (nb : Nz b) (hm : b.length = m + 1) (hnq : m + nq = la) (hP : Lim P) (hPl : P.length = la + 1) (hv : lv P = lv a * 2 ^ s) :
    DvI (lv a * 2 ^ s) (lv b * 2 ^ s) nq nq (List.replicate nq 0) P (la + 1) := by
  refine ⟨by simp, Lim.rep _, hPl, hP, fun j _ => Z.getD_rep _ _, by rw [lv_rep, hv]; omega, ?_⟩
  have h1 := lv_lt ha
  rw [hla] at h1
  have h2 := lv_ge hb nb (by intro h; subst h; simp at hm)
  rw [hm, Nat.add_sub_cancel] at h2
  have hs := two_pos s
  rw [hv]
  have e : (4294967296 : Int) ^ la = 4294967296 ^ m * 4294967296 ^ nq := by rw [← hnq, Int.pow_add]
  have h3 : 4294967296 ^ m * 4294967296 ^ nq ≤ lv b * 4294967296 ^ nq := Int.mul_le_mul_of_nonneg_right h2 (Int.le_of_lt (pow_pos nq))
  have h4 : lv a * 2 ^ s < lv b * 4294967296 ^ nq * 2 ^ s := Int.mul_lt_mul_of_pos_right (by omega) hs
  rw [show lv b * 2 ^ s * 4294967296 ^ nq = lv b * 4294967296 ^ nq * 2 ^ s by grind]
  exact h4
end Go.Proofs.YtnpeokgjfnobmaaDoor.L

/-
  math/bits: Len32, LeadingZeros32. (The proof of Len32 is after the shelf's.)
-/
namespace Go.Proofs.YtnpeokgjfnobmaaDoor
set_option linter.unusedVariables false
set_option linter.unusedSimpArgs false
open Go.RowKit
set_option linter.unusedVariables false
namespace NC
open L
theorem tab_size : Lib.len8tab.size = 256 := by decide +kernel
theorem tab_eq : ∀ n : Fin 256, (Lib.len8tab[n.val]'(by rw [tab_size]; exact n.isLt)).toNat = Lib.bitLen n.val := by decide +kernel
theorem tab_at (n : Nat) (h : n < Lib.len8tab.size) : (Lib.len8tab[n]'h).toNat = Lib.bitLen n := tab_eq ⟨n, by rw [← tab_size]; exact h⟩
theorem wrap64_id {n : Int} (h : -9223372036854775808 ≤ n ∧ n ≤ 9223372036854775807) : wrap64 n = n := by unfold wrap64; omega
set_option maxHeartbeats 4000000 in
set_option maxRecDepth 100000 in
theorem Len32_c (x : Int) (w : World) (h0 : 0 ≤ x) (h1 : x ≤ 4294967295) : Calls Tryd.prog 52 #[.int .u32 x] w (fun e w' => e = .returned (.int .i64 (Lib.bitLen x.toNat)) ∧ w = w') := by
  have hsz := tab_size
  go_enter Tryd.func52, Tryd.ntmps52
  go_wp2
  all_goals (go_ret; refine ⟨congrArg Ending.returned (congrArg (Value.int IntKind.i64) ?_), rfl⟩)
  all_goals rw [tab_at]
  all_goals first
    | (have e : (x / 65536 / 256).toNat = x.toNat / 16777216 := by omega
       have l := Lib.bitLen_le (x / 65536 / 256).toNat 8 (by omega) (by omega)
       have s := Lib.bitLen_shift24 x.toNat (by omega) (by omega)
       rw [e] at l ⊢
       rw [wrap64_id (n := ((Lib.bitLen (x.toNat / 16777216) : Nat) : Int)) (by omega), wrap64_id (by omega)]
       omega)
    | (have e : (x / 65536).toNat = x.toNat / 65536 := by omega
       have l := Lib.bitLen_le (x / 65536).toNat 8 (by omega) (by omega)
       have s := Lib.bitLen_shift16 x.toNat (by omega) (by omega)
       rw [e] at l ⊢
       rw [wrap64_id (n := ((Lib.bitLen (x.toNat / 65536) : Nat) : Int)) (by omega), wrap64_id (by omega)]
       omega)
    | (have e : (x / 256).toNat = x.toNat / 256 := by omega
       have l := Lib.bitLen_le (x / 256).toNat 8 (by omega) (by omega)
       have s := Lib.bitLen_shift8 x.toNat (by omega) (by omega)
       rw [e] at l ⊢
       rw [wrap64_id (n := ((Lib.bitLen (x.toNat / 256) : Nat) : Int)) (by omega), wrap64_id (by omega)]
       omega)
    | (have l := Lib.bitLen_le x.toNat 8 (by omega) (by omega)
       rw [wrap64_id (n := ((Lib.bitLen x.toNat : Nat) : Int)) (by omega), wrap64_id (by omega)])
theorem bitLen_bd (x : Int) (h0 : 0 < x) (h1 : x ≤ 4294967295) : ∃ n : Nat, Lib.bitLen x.toNat = n + 1 ∧ n < 32 ∧ (2 : Int) ^ n ≤ x ∧ x < 2 ^ (n + 1) := by
  obtain ⟨a, rfl⟩ := Int.eq_ofNat_of_zero_le (Int.le_of_lt h0)
  have ha : a ≠ 0 := by omega
  have key : ∀ (f b : Nat), b ≠ 0 → b < 2 ^ f → ∃ n : Nat, Lib.bitLenAux f b = n + 1 ∧ 2 ^ n ≤ b ∧ b < 2 ^ (n + 1) := by
    intro f
    induction f with
    | zero => intro b h1 h2; simp at h2; omega
    | succ f ih =>
      intro b h1 h2
      simp only [Lib.bitLenAux, if_neg h1]
      by_cases hb : b / 2 = 0
      · refine ⟨0, ?_, by simp; omega, by simp; omega⟩
        rw [hb]
        cases f <;> simp [Lib.bitLenAux]
      · obtain ⟨n, e1, e2, e3⟩ := ih (b / 2) hb (by rw [Nat.pow_succ] at h2; omega)
        exact ⟨n + 1, by omega, by rw [Nat.pow_succ]; omega, by rw [Nat.pow_succ]; omega⟩
  obtain ⟨n, e1, e2, e3⟩ := key 64 a ha (by omega)
  have l := Lib.bitLen_le a 32 (by omega) (by omega)
  refine ⟨n, e1, ?_, by exact_mod_cast e2, by exact_mod_cast e3⟩
  have : Lib.bitLen a = n + 1 := e1
  omega
end NC
end Go.Proofs.YtnpeokgjfnobmaaDoor

/-
  Package nat: divide, Div.
-/
namespace Go.Proofs.YtnpeokgjfnobmaaDoor
set_option linter.unusedVariables false
set_option linter.unusedSimpArgs false
open Go.RowKit
set_option linter.unusedVariables false
namespace NC
open L
open Z (Nz Tz cmpv)
theorem Row.grown {w w' : World} {g g' : Nat} {P : List Int} (h : Row .u32 56 w g P) (hg : w.grownBy w' (some g')) (hne : g ≠ g') : Row .u32 56 w' g P := Blk.grown h hg (by simpa using hne)
theorem Row.below' {w w' : World} {g : Nat} {P : List Int} (h : Row .u32 56 w g P) (hb : Below w.heap.size w w') : Row .u32 56 w' g P := Blk.below h hb (Blk.lt h)
/-- a quotient and a remainder -/
def RetVV (w : World) (q r : Int) (e : Ending) (w' : World) : Prop := ∃ A n c A' n' c', e = .returned (.tuple #[.slice A n c, .slice A' n' c']) ∧ NV w' (.slice A n c) q ∧ NV w' (.slice A' n' c') r ∧ Below w.heap.size w w'
/-- what Div tells of an error -/
def errDiv (l m : List Int) : Int := if chk2 l m ≠ 0 then chk2 l m else if m = [] then 1 else 0
def RetD (w : World) (er q r : Int) (e : Ending) (w' : World) : Prop := ∃ A n c A' n' c', e = .returned (.tuple #[.slice A n c, .slice A' n' c', .int .i64 er]) ∧ NV w' (.slice A n c) q ∧ NV w' (.slice A' n' c') r ∧ Below w.heap.size w w'
theorem RetD.err {w w' : World} {er : Int} (hb : Below w.heap.size w w') : RetD w er 0 0 (.returned (.tuple #[.slice none 0 0, .slice none 0 0, .int .i64 er])) w' := ⟨none, 0, 0, none, 0, 0, rfl, NV.nil _ _ _, NV.nil _ _ _, hb⟩
theorem Head.sl {w : World} {B g c : Nat} {l : List Int} (h : Head w B g c l) : Sl .u32 w (.slice (some ⟨g, 0, none⟩) l.length c) l := by
  obtain ⟨_, hc, cs, hb, hw⟩ := h
  refine ⟨_, c, rfl, hc, .inr ⟨⟨g, 0, none⟩, rfl, hb.lt, fun j hj => ?_⟩⟩
  have e : (⟨g, 0, none⟩ : Addr).add j = ⟨g, 0 + j, none⟩ := by unfold Addr.add; split <;> simp_all
  rw [e, hb.at_ _ (hw j hj), List.getD_eq_getElem?_getD, List.getElem?_eq_getElem hj]; rfl
theorem undrewN {w w' : World} {k : Nat} (h : Below (w.drewN k).heap.size (w.drewN k) w') : Below w.heap.size w w' := ⟨h.os, h.tape, h.output, h.size, h.block⟩
end NC
end Go.Proofs.YtnpeokgjfnobmaaDoor

/-
  Plain mathematics: limbs with bits put behind them; the root, two bits at a time.
-/
namespace Go.Proofs.YtnpeokgjfnobmaaDoor.L
set_option linter.unusedVariables false
set_option linter.unusedSimpArgs false
open Z (Nz Tz cmpv)
theorem nz_of_ge {M : List Int} {n : Nat} (hM : Lim M) (hl : M.length = n + 1) (h : 4294967296 ^ n ≤ lv M) : Nz M := by
  intro hne h0
  have h1 := lv_split M n (by omega)
  rw [List.drop_of_length_le (by omega)] at h1
  have h2 := lv_lt (hM.take n)
  rw [List.length_take, Nat.min_eq_left (by omega)] at h2
  have h3 : M.getD n 0 = 0 := by
    rw [List.getLast_eq_getElem] at h0
    rw [List.getD_eq_getElem?_getD, List.getElem?_eq_getElem (by omega)]
    simpa [hl] using h0
  rw [h3] at h1
  simp [lv] at h1
  omega
/-- bits being put behind: so many limbs are moved up by r bits; c is carried -/
structure PuI (X : List Int) (r : Nat) (low : Int) (i : Nat) (M : List Int) (c : Int) : Prop where
  len : M.length = X.length
  lim : Lim M
  c0 : 0 ≤ c
  c1 : c < 2 ^ r
  rest : ∀ j, i ≤ j → M.getD j 0 = X.getD j 0
  sum : lv (M.take i) + 4294967296 ^ i * c = 2 ^ r * lv (X.take i) + low
theorem PuI.start {X : List Int} {r : Nat} {low : Int} (h : Lim X) (h0 : 0 ≤ low) (h1 : low < 2 ^ r) : PuI X r low 0 X low := ⟨rfl, h, h0, h1, fun _ _ => rfl, by simp [lv]⟩
theorem PuI.step {X M : List Int} {r i : Nat} {low c q : Int} (h : PuI X r low i M c) (hi : i < X.length) (hq : X.getD i 0 = q) (q0 : 0 ≤ q) (q1 : q < 4294967296) : PuI X r low (i + 1) (M.set i ((q * 2 ^ r + c) % 4294967296)) ((q * 2 ^ r + c) / 4294967296) := by
  have hp := two_pos r
  have c0 := h.c0
  have c1 := h.c1
  have q2 : 0 ≤ q * 2 ^ r := Int.mul_nonneg q0 (Int.le_of_lt hp)
  have e := Int.emod_add_mul_ediv (q * 2 ^ r + c) 4294967296
  refine ⟨by simp [h.len], h.lim.set _ (Int.emod_nonneg _ (by decide)) (Int.emod_lt_of_pos _ (by decide)), Int.ediv_nonneg (by omega) (by decide), ?_, fun j hj => ?_, ?_⟩
  · rw [Int.ediv_lt_iff_lt_mul (by decide)]
    have : (q + 1) * 2 ^ r ≤ 4294967296 * 2 ^ r := Int.mul_le_mul_of_nonneg_right (by omega) (Int.le_of_lt hp)
    grind
  · rw [getD_set (by rw [h.len]; exact hi), if_neg (by omega)]; exact h.rest j (by omega)
  · rw [lv_take_succ, lv_take_succ, getD_set (by rw [h.len]; exact hi), if_pos rfl, List.take_set_of_le (Nat.le_refl _), hq, Int.pow_succ]
    have := h.sum
    have e2 : (4294967296 : Int) ^ i * ((q * 2 ^ r + c) % 4294967296 + 4294967296 * ((q * 2 ^ r + c) / 4294967296)) = 4294967296 ^ i * (q * 2 ^ r + c) := by rw [e]
    grind
theorem PuI.done0 {X M : List Int} {r : Nat} {low : Int} (h : PuI X r low X.length M 0) (hX : Lim X) (nX : Nz X) (h0 : 0 ≤ low) : lv M = lv X * 2 ^ r + low ∧ Nz M := by
  have := h.sum
  rw [List.take_length, lv_take_all (by rw [h.len]; exact Nat.le_refl _)] at this
  have e : lv M = lv X * 2 ^ r + low := by grind
  refine ⟨e, ?_⟩
  by_cases hne : X = []
  · intro hM
    have := h.len
    rw [hne] at this
    exact absurd (List.eq_nil_of_length_eq_zero this) hM
  · have h1 := lv_ge hX nX hne
    have hp := two_pos r
    have hl := List.length_pos_iff.2 hne
    refine nz_of_ge (n := X.length - 1) h.lim (by rw [h.len]; omega) ?_
    have h2 : lv X * 1 ≤ lv X * 2 ^ r := Int.mul_le_mul_of_nonneg_left (by omega) (lv_nonneg hX)
    omega
theorem PuI.done1 {X M : List Int} {r : Nat} {low c : Int} (h : PuI X r low X.length M c) (hc : 0 < c) : lv (M ++ [c]) = lv X * 2 ^ r + low ∧ Nz (M ++ [c]) := by
  have := h.sum
  rw [List.take_length, lv_take_all (by rw [h.len]; exact Nat.le_refl _)] at this
  refine ⟨by rw [lv_append, h.len]; simp [lv]; grind, fun hne => ?_⟩
  simp; omega
/-- the root under way: k pairs of bits are left; R is the root of the others, re what is left of them -/
structure SqI (A : Int) (K k : Nat) (R tw re : Int) : Prop where
  r0 : 0 ≤ R
  eT : tw = 2 * R
  eR : re = A / 4 ^ k - R * R
  le : re ≤ 2 * R
  re0 : 0 ≤ re
  top : R = 0 → k = K
theorem SqI.start {A : Int} {K : Nat} (h0 : 0 ≤ A) (h : A < 4 ^ K) : SqI A K K 0 0 0 := ⟨by omega, by omega, by rw [Int.ediv_eq_zero_of_lt h0 h]; omega, by omega, by omega, fun _ => rfl⟩
theorem four_step (A : Int) (k : Nat) : A / 4 ^ k = 4 * (A / 4 ^ (k + 1)) + A / 4 ^ k % 4 := by
  have e := Int.emod_add_mul_ediv (A / 4 ^ k) 4
  have hp : (0 : Int) ≤ 4 ^ k := Int.le_of_lt (Int.pow_pos (by decide))
  rw [Int.pow_succ, ← Int.ediv_ediv_of_nonneg hp]
  omega
theorem SqI.less {A R tw re p : Int} {K k : Nat} (h : SqI A K (k + 1) R tw re) (hK : 4 ^ (K - 1) ≤ A) (hp : p = A / 4 ^ k % 4) (hlt : re * 4 + p < tw * 2 + 1) : SqI A K k (2 * R) (tw * 2) (re * 4 + p) ∧ 0 < R := by
  have e := four_step A k
  have h1 := h.eT
  have h2 := h.eR
  have h3 := h.r0
  have h4 := h.re0
  have p0 : 0 ≤ A / 4 ^ k % 4 := Int.emod_nonneg _ (by decide)
  have hR : 0 < R := by
    rcases Int.lt_or_eq_of_le h3 with h5 | h5
    · exact h5
    · exfalso
      have hk := h.top h5.symm
      have a1 : (1 : Int) ≤ A / 4 ^ k := by
        rw [Int.le_ediv_iff_mul_le (Int.pow_pos (by decide))]
        have : K - 1 = k := by omega
        rw [this] at hK
        omega
      rw [← h5] at h1 h2
      simp at h2
      omega
  refine ⟨⟨by omega, by omega, ?_, by omega, by omega, fun h5 => by omega⟩, hR⟩
  rw [e, h2, hp]; grind
theorem SqI.more {A R tw re p : Int} {K k : Nat} (h : SqI A K (k + 1) R tw re) (hp : p = A / 4 ^ k % 4) (hge : tw * 2 + 1 ≤ re * 4 + p) : SqI A K k (2 * R + 1) (tw * 2 + 1 + 1) (re * 4 + p - (tw * 2 + 1)) := by
  have e := four_step A k
  have h1 := h.eT
  have h2 := h.eR
  have h3 := h.r0
  have h4 := h.le
  have p1 : A / 4 ^ k % 4 < 4 := Int.emod_lt_of_pos _ (by decide)
  refine ⟨by omega, by omega, ?_, by omega, by omega, fun h5 => by omega⟩
  rw [e, h2, hp, h1]; grind
theorem SqI.done {A R tw re : Int} {K : Nat} (h : SqI A K 0 R tw re) : R * R + re = A ∧ 0 ≤ re ∧ re ≤ 2 * R ∧ 0 ≤ R := by
  have := h.eR
  simp at this
  exact ⟨by omega, h.re0, h.le, h.r0⟩
/-- a pair of bits of limbs -/
theorem pair_eq {a : List Int} (ha : Lim a) (i : Nat) (hi : i / 16 < a.length) : a.getD (i / 16) 0 / 2 ^ (i % 16 * 2) % 4 = lv a / 4 ^ i % 4 := by
  have e1 : (4 : Int) ^ i = 4294967296 ^ (i / 16) * 2 ^ (i % 16 * 2) := by
    rw [show (4 : Int) = 2 ^ 2 by decide, show (4294967296 : Int) = 2 ^ 32 by decide, ← Int.pow_mul, ← Int.pow_mul, ← Int.pow_add]
    congr 1
    omega
  rw [e1, ← Int.ediv_ediv_of_nonneg (Int.le_of_lt (pow_pos _)), ← lv_div a ha _ (by omega), lv_drop _ hi]
  generalize a.getD (i / 16) 0 = x
  generalize lv (a.drop (i / 16 + 1)) = D
  have ht : i % 16 * 2 + 2 ≤ 32 := by omega
  obtain ⟨p', _, e⟩ := two_split ht
  have hp := two_pos (i % 16 * 2)
  rw [Int.pow_add] at e
  generalize (2 : Int) ^ (i % 16 * 2) = p at *
  have : x + 4294967296 * D = x + p * (4 * p' * D) := by rw [← e]; grind
  rw [this, Int.add_mul_ediv_left _ _ (by omega), Int.mul_assoc 4, Int.add_mul_emod_self_left]
theorem and3 (x : Int) (h0 : 0 ≤ x) (h1 : x < 4294967296) : bits .and .u32 x 3 = x % 4 := by
  obtain ⟨a, rfl⟩ := Int.eq_ofNat_of_zero_le h0
  rw [show (3 : Int) = ((3 : Nat) : Int) by rfl, and_u32 a 3 (by omega) (by decide), show (3 : Nat) = 2 ^ 2 - 1 by decide, Nat.and_two_pow_sub_one_eq_mod]
  rfl
/-- the lowest limb one more, one less -/
theorem lv_set0 {L : List Int} (h : L ≠ []) (z : Int) : lv (L.set 0 z) = lv L + (z - L.getD 0 0) := by
  rw [lv_set L 0 z (List.length_pos_iff.2 h)]; simp
theorem nz_set0 {L : List Int} {z : Int} (hn : Nz L) (hz : z ≠ 0 ∨ 1 < L.length) : Nz (L.set 0 z) := by
  intro hne h0
  cases L with
  | nil => simp at hne
  | cons d r =>
    cases r with
    | nil => simp at h0 hz; exact hz h0
    | cons d2 r =>
      simp only [List.set_cons_zero, List.getLast_cons_cons] at h0
      exact hn (by simp) (by simpa [List.getLast_cons_cons] using h0)
theorem low4 {L : List Int} (h : L ≠ []) {x : Int} (e : lv L = 4 * x + 1) : L.getD 0 0 % 4 = 1 := by
  have := lv_drop (L := L) 0 (List.length_pos_iff.2 h)
  simp only [List.drop_zero] at this
  omega
end Go.Proofs.YtnpeokgjfnobmaaDoor.L

/-
  Package nat: push: a slice of the call's own, written in place and appended to.
-/
namespace Go.Proofs.YtnpeokgjfnobmaaDoor
set_option linter.unusedVariables false
set_option linter.unusedSimpArgs false
open Go.RowKit
set_option linter.unusedVariables false
namespace NC
open L
open Z (Nz Tz cmpv)
abbrev OwnU (w : World) (base : Nat) (v : Value) (X : List Int) : Prop := Own .u32 56 w base v X
section
variable {w : World} {base g n c : Nat} {X : List Int}
theorem OwnU.cell (h : OwnU w base (.slice (some ⟨g, 0, none⟩) n c) X) (j : Nat) (hj : j < X.length) : w.cell? ⟨g, j, none⟩ = some (.int .u32 (X.getD j 0)) := by
  have hn : n = X.length := (Own.sl h).len_.1
  subst hn
  have := World.ownsRow.cellAt h j (by omega)
  rw [this, List.getElem?_map, List.getD_eq_getElem?_getD, List.getElem?_eq_getElem hj]; rfl
theorem OwnU.frozen (h : OwnU w base (.slice (some ⟨g, 0, none⟩) n c) X) (j : Nat) : w.frozen? ⟨g, j, none⟩ = false := by
  have hn : n = X.length := (Own.sl h).len_.1
  subst hn
  exact World.ownsRow.frozenAt h j
theorem OwnU.set_ (h : OwnU w base (.slice (some ⟨g, 0, none⟩) n c) X) (j : Nat) (z : Int) : OwnU (w.setCell ⟨g, j, none⟩ (.int .u32 z)) base (.slice (some ⟨g, 0, none⟩) n c) (X.set j z) := by
  have hn : n = X.length := (Own.sl h).len_.1
  subst hn
  have := (World.ownsRow.stored h j (.int .u32 z)).1
  unfold OwnU Own
  rw [List.map_set, List.length_set]
  exact this
theorem OwnU.form {v : Value} (h : OwnU w base v X) : (v = .slice none 0 0 ∧ X = []) ∨ ∃ g c, v = .slice (some ⟨g, 0, none⟩) X.length c ∧ base ≤ g ∧ g < w.heap.size ∧ X.length ≤ c := by
  rcases h.2 with ⟨rfl, h0⟩ | ⟨g, cap, cur, rfl, hg, hgg, hc, _⟩
  · exact .inl ⟨rfl, List.eq_nil_of_length_eq_zero h0⟩
  · exact .inr ⟨g, cap, rfl, hg, (Array.getElem?_eq_some_iff.1 hgg).1, hc⟩
end
/-- one limb appended, anywhere the walk stands at the call -/
def RetPu (w : World) (base : Nat) (v : Value) (z : Int) (e : Ending) (w' : World) : Prop :=
  ∃ A n c X, e = .returned (.slice A n c) ∧ Hid (OwnU w' base (.slice A n c) X ∧ Lim X ∧ Nz X ∧ lv X = z) ∧ w.grownBy w' v.ownBlock ∧ ((Value.slice A n c).ownBlock = v.ownBlock ∨ ∃ g, (Value.slice A n c).ownBlock = some g ∧ w.heap.size ≤ g)
set_option maxRecDepth 100000 in
theorem push_c (base : Nat) (v : Value) (X : List Int) (r : Nat) (low : Int) (w : World) (hv : OwnU w base v X) (hX : Lim X) (nX : Nz X) (hr : r ≤ 31) (h0 : 0 ≤ low) (h1 : low < 2 ^ r) (hl : X.length ≤ 1000000) (hb : base ≤ w.heap.size) :
    Calls Tryd.prog 84 #[v, .int .i64 r, .int .u32 low] w (RetPu w base v (lv X * 2 ^ r + low)) := by
  have hr2 : (2 : Int) ^ r ≤ 2147483648 := by
    have : (2 : Int) ^ r ≤ 2 ^ 31 := by exact_mod_cast Nat.pow_le_pow_right (by decide : 0 < 2) hr
    exact this
  have hp := two_pos r
  have I0 := Lib.hid (PuI.start hX h0 h1)
  have HDONE0 := Lib.hid (fun (M : List Int) (h : PuI X r low X.length M 0) => h.done0 hX nX h0)
  have HDONE1 := Lib.hid (fun (M : List Int) (c : Int) (h : PuI X r low X.length M c) (hc : 0 < c) => h.done1 hc)
  obtain ⟨zz, hzz⟩ : ∃ zz, lv X * 2 ^ r + low = zz := ⟨_, rfl⟩
  rw [hzz] at HDONE0 HDONE1 ⊢
  obtain ⟨A, c, rfl⟩ := Own.form hv
  obtain ⟨n, hn⟩ : ∃ n, X.length = n := ⟨_, rfl⟩
  have HV := Lib.hid hv
  have HX := Lib.hid hX
  have hc : n ≤ c := by rw [← hn]; exact (Own.sl hv).len_.2
  rw [hn] at hl HV HDONE0 HDONE1 ⊢
  have HN := Lib.hid hn
  obtain ⟨ob, hob⟩ : ∃ ob, (Value.slice A n c).ownBlock = ob := ⟨_, rfl⟩
  clear hv hX nX hn hzz
  go_enter Tryd.func84, Tryd.ntmps84
  go_wp2
  go_loopw [12, 2] (fun iv cv wr => ∃ (i : Nat) (M : List Int) (k : Int), iv = .int .i64 i ∧ i ≤ n ∧ cv = .int .u32 k ∧ Hid (PuI X r low i M k) ∧ Hid (OwnU wr base (.slice A n c) M) ∧ Hid (w.grownBy wr (Value.slice A n c).ownBlock)) (fun iv _ _ => n - (intOf iv).toNat)
  case atStart => exact ⟨0, X, low, rfl, by omega, rfl, I0, HV, World.grownBy.refl _ _⟩
  case round =>
    obtain ⟨i, M, k, rfl, hi, rfl, hI, hO, hG⟩ := hrel
    have ik := hI.out.c0
    have ik1 := hI.out.c1
    by_cases hin : i < n
    · have hML := hI.out.len
      rcases OwnU.form hO.out with ⟨e, _⟩ | ⟨g, c', e, hg, hgs, hc'⟩
      · injection e with _ e; omega
      · injection e with e1 e2 e3
        subst e1
        clear e2 e3 hc'
        have hxc := OwnU.cell hO.out i (by rw [hML, HN.out]; exact hin)
        have fx := OwnU.frozen hO.out i
        have bq := HX.out.at_ i
        rw [hI.out.rest i (Nat.le_refl _)] at hxc
        obtain ⟨q, hq⟩ : ∃ q, X.getD i 0 = q := ⟨_, rfl⟩
        rw [hq] at hxc bq
        have HST := Lib.hid (hI.out.step (by rw [HN.out]; exact hin) hq bq.1 bq.2)
        have t0 : 0 ≤ q * 2 ^ r := Int.mul_nonneg bq.1 (by omega)
        have t1 : q * 2 ^ r ≤ 4294967295 * 2147483648 := Int.mul_le_mul (by omega) hr2 (by omega) (by omega)
        have hwr : IntKind.u64.wrap (q * 2 ^ r) = q * 2 ^ r := Go.u64_wrap_id _ t0 (by omega)
        have hor : bits .or .u64 (q * 2 ^ r) k = q * 2 ^ r + k := bits_join .u64 64 (by decide) (fun n h0 h1 => by rw [IntKind.wrap_u64]; omega) r (q * 2 ^ r) k t0 (Int.mul_emod_left _ _) (by simpa using (show q * 2 ^ r < 18446744073709551616 by omega)) ik ik1 (by have := ik1; simp; omega)
        have hG2 : Hid (∀ u, w.grownBy (wr.setCell ⟨g, i, none⟩ u) (some g)) := fun u => grownBy_set hG.out i u
        clear hML hq hob
        go_wp2
        exact ⟨⟨i + 1, _, _, by simp, by omega, rfl, HST.out, OwnU.set_ hO.out i _, hG2.out _⟩, by simp only [intOf]; omega⟩
    · obtain rfl : n = i := by omega
      have hsz := hG.out.size
      rcases Int.lt_or_eq_of_le ik with hl0 | hl0
      · have e1 : decide (0 < k) = true := by simp [hl0]
        have D := Lib.hid (HDONE1.out M k hI.out hl0)
        have hlm : M.length ≤ 1000000 := by rw [hI.out.len, HN.out]; exact hl
        have HLM := Lib.hid hlm
        clear HDONE0 HDONE1 hlm
        go_wp2_with (first | (at_builtin; refine app1 el_u32 rfl _ _ rfl rfl hO.out k rfl (by have := HLM.out; omega) (by omega) ?_; intro A2 k2 c2 w2 hk2 hown2 hg2 hat2))
        go_ret
        refine ⟨_, _, _, _, rfl, ⟨hown2, ?_, D.out.2, D.out.1⟩, ?_, ?_⟩
        · exact hI.out.lim.app (by intro d hd; simp at hd; omega)
        · exact ⟨hg2.os.trans hG.out.os, hg2.tape.trans hG.out.tape, hg2.output.trans hG.out.output, Nat.le_trans hsz hg2.size, fun j hj hne => (hg2.block j (Nat.lt_of_lt_of_le hj hsz) hne).trans (hG.out.block j hj hne)⟩
        · rcases hat2 with h | h
          · exact .inl h
          · exact .inr ⟨_, h, by omega⟩
      · have D := Lib.hid (HDONE0.out M (by rw [hl0]; exact hI.out))
        subst hl0
        clear HDONE0 HDONE1
        go_wp2
        go_ret
        exact ⟨_, _, _, _, rfl, ⟨hO.out, hI.out.lim, D.out.2, D.out.1⟩, hG.out, .inl rfl⟩
end NC
end Go.Proofs.YtnpeokgjfnobmaaDoor

/-
  Package nat: squareRoot.
-/
namespace Go.Proofs.YtnpeokgjfnobmaaDoor
set_option linter.unusedVariables false
set_option linter.unusedSimpArgs false
open Go.RowKit
set_option linter.unusedVariables false
namespace NC
open L
open Z (Nz Tz cmpv)
def Sep (v u : Value) : Prop := ∀ g, v.ownBlock = some g → u.ownBlock = some g → False
theorem Sep.symm {v u : Value} (h : Sep v u) : Sep u v := fun g h1 h2 => h g h2 h1
section
variable {w w' : World} {base : Nat} {v u u' : Value} {X : List Int}
theorem keepO (h : OwnU w base v X) (hg : w.grownBy w' u.ownBlock) (hs : Sep v u) : OwnU w' base v X := by
  refine World.ownsRow.kept h hg ?_
  cases hv : v.ownBlock with
  | none => exact .inl rfl
  | some g => exact .inr fun e => hs g hv e.symm
theorem sep_after (hs : Sep v u) (h : OwnU w base v X) (h' : u'.ownBlock = u.ownBlock ∨ ∃ g, u'.ownBlock = some g ∧ w.heap.size ≤ g) : Sep v u' := by
  intro g h1 h2
  rcases h' with h' | ⟨g', h3, h4⟩
  · exact hs g h1 (h'.symm.trans h2)
  · have := (Own.lt h g h1).2
    rw [h3] at h2
    injection h2 with h2
    omega
theorem keepS (h : OwnU w base v X) {g j : Nat} {z : Value} (hs : v.ownBlock ≠ some g) : OwnU (w.setCell ⟨g, j, none⟩ z) base v X := ownsRow_setCell_other h hs z
theorem OwnU.take {A : Option Addr} {n c m : Nat} (h : OwnU w base (.slice A n c) X) (hm : m ≤ n) (hA : A ≠ none) : OwnU w base (.slice A m c) (X.take m) := by
  have hn : n = X.length := (Own.sl h).len_.1
  have hl : (X.take m).length = m := by rw [List.length_take, ← hn]; exact Nat.min_eq_left hm
  unfold OwnU Own
  rw [hl]
  refine ⟨by rw [List.length_map, hl]; omega, ?_⟩
  rcases h.2 with ⟨e, _⟩ | ⟨g, cap, cur, e, hg, hgg, hc, hmx, hsz, htk⟩
  · injection e with e1; exact absurd e1 hA
  · injection e with e1 e2 e3
    subst e1 e3
    refine .inr ⟨g, _, cur, rfl, hg, hgg, by omega, hmx, hsz, ?_⟩
    rw [List.map_take, ← htk, List.take_take, Nat.mul_one, Nat.mul_one, Nat.min_eq_left (by omega)]
end
/-- a slice of the call's own, written in place -/
def RetOw (w : World) (base g n c : Nat) (z : Int) (e : Ending) (w' : World) : Prop :=
  ∃ M, e = .returned (.tuple #[]) ∧ w.grownBy w' (some g) ∧ Hid (OwnU w' base (.slice (some ⟨g, 0, none⟩) n c) M ∧ M.length = n ∧ Lim M ∧ lv M = z)
theorem own_of_ed {w w' : World} {base g n c : Nat} {X M : List Int} {cs : Array Value} (h : OwnU w base (.slice (some ⟨g, 0, none⟩) n c) X) (hcs : Blk w g 56 cs) (hE : Ed w w' g cs 0 n M) : OwnU w' base (.slice (some ⟨g, 0, none⟩) n c) M := by
  obtain ⟨cs', hb, hs, hM, _⟩ := hE.blk
  have hl := hE.len
  unfold OwnU Own
  rw [hl]
  refine ⟨by rw [List.length_map, hl]; omega, ?_⟩
  rcases h.2 with ⟨e, _⟩ | ⟨g2, cap, cur, e, hg, hgg, hc, hmx, hsz, htk⟩
  · cases e
  · injection e with e1 e2 e3
    injection e1 with e1
    injection e1 with e1
    subst e1 e3
    have e4 : cs = cur := by
      have := hgg.symm.trans hcs
      injection this with this
      injection this with this
      exact this.symm
    subst e4
    refine .inr ⟨g, _, cs', rfl, hg, hb, by omega, hmx, by rw [hs]; exact hsz, ?_⟩
    apply List.ext_getElem?
    intro j
    rw [List.getElem?_take, List.getElem?_map, Nat.mul_one]
    by_cases hj : j < n
    · have := hM j (by omega)
      rw [Nat.zero_add] at this
      rw [if_pos hj, Array.getElem?_toList, this, List.getD_eq_getElem?_getD, List.getElem?_eq_getElem (by omega)]; rfl
    · rw [if_neg hj, List.getElem?_eq_none (by omega)]; rfl
theorem subFrom_own (base g n c : Nat) (X m : List Int) (vb : Value) (w : World) (hO : OwnU w base (.slice (some ⟨g, 0, none⟩) n c) X) (hY : SlA .u32 w vb m g) (LX : Lim X) (Lm : Lim m) (nm : Nz m) (hle : lv m ≤ lv X) (hN : X.length ≤ 1000000000) :
    Calls Tryd.prog 86 #[.slice (some ⟨g, 0, none⟩) n c, vb] w (RetOw w base g n c (lv X - lv m)) := by
  have hn : n = X.length := (Own.sl hO).len_.1
  subst hn
  have hlen : m.length ≤ X.length := by
    rcases Nat.lt_or_ge X.length m.length with h | h
    · have := lv_len LX Lm nm h; omega
    · exact h
  have hc := (Own.sl hO).len_.2
  obtain ⟨cs, hb, hw⟩ : ∃ cs, Blk w g 56 cs ∧ Wn cs 0 X := by
    by_cases hne : X = []
    · rcases hO.2 with ⟨e, _⟩ | ⟨g2, cap, cur, e, hg, hgg, _⟩
      · cases e
      · injection e with e1 _ _
        injection e1 with e1
        injection e1 with e1
        subst e1
        exact ⟨cur, hgg, by subst hne; intro j hj; simp at hj⟩
    · obtain ⟨g2, c2, e, hH⟩ := own_head hO hne
      injection e with e1 _ _
      injection e1 with e1
      injection e1 with e1
      subst e1
      exact hH.2.2
  refine (subFrom_c g 0 X.length c cs X m vb w hb hw rfl hY LX Lm hlen hN hc hle).mono fun e w' h => ?_
  obtain ⟨M, rfl, hE, hL, hv⟩ := h
  exact ⟨M, rfl, hE.grown, own_of_ed hO hb hE, hE.len, hL, hv.out⟩
end NC
end Go.Proofs.YtnpeokgjfnobmaaDoor

/-
  Package nat: squareRoot, Root; Bits.
-/
namespace Go.Proofs.YtnpeokgjfnobmaaDoor
set_option linter.unusedVariables false
set_option linter.unusedSimpArgs false
open Go.RowKit
set_option linter.unusedVariables false
namespace NC
open L
open Z (Nz Tz cmpv)
/-- limbs of the call's own in normal form -/
structure ON (w : World) (base : Nat) (v : Value) (X : List Int) (z : Int) : Prop where
  o : OwnU w base v X
  l : Lim X
  n : Nz X
  v : lv X = z
theorem ON.drewN {w : World} {base : Nat} {v : Value} {X : List Int} {z : Int} (h : ON w base v X z) (k : Nat) : ON (w.drewN k) base v X z := ⟨Own.drewN h.o k, h.l, h.n, h.v⟩
theorem ON.nil (w : World) (base : Nat) : ON w base (.slice none 0 0) [] 0 := ⟨Own.nil _ _ _ _, Lim.nil, (by intro h; exact absurd rfl h), rfl⟩
theorem ON.len {w : World} {base : Nat} {v : Value} {X : List Int} {z : Int} (h : ON w base v X z) (hz : z < 4294967296 ^ 500) : X.length ≤ 500 := len_le h.l h.n (by rw [h.v]; exact hz)
theorem ON.some_ {w : World} {base : Nat} {A : Option Addr} {n c : Nat} {X : List Int} {z : Int} (h : ON w base (.slice A n c) X z) (hz : 0 < z) : ∃ g, A = some ⟨g, 0, none⟩ ∧ n = X.length ∧ X ≠ [] ∧ base ≤ g ∧ g < w.heap.size := by
  have hne : X ≠ [] := by intro e; have := h.v; rw [e] at this; simp [lv] at this; omega
  rcases OwnU.form h.o with ⟨_, e⟩ | ⟨g, c', e, hg, hgs, _⟩
  · exact absurd e hne
  · injection e with e1 e2 e3
    exact ⟨g, e1, e2, hne, hg, hgs⟩
theorem lv_one {L : List Int} (h : L.length = 1) : lv L = L.getD 0 0 := by
  obtain ⟨d, rfl⟩ := List.length_eq_one_iff.1 h
  simp [lv]
theorem root_bds {A R : Int} {K k : Nat} {tw re : Int} (h : SqI A K k R tw re) (hA : 0 ≤ A) (hs : A < 4294967296 ^ 400) : tw < 4294967296 ^ 401 ∧ re < 4294967296 ^ 401 ∧ tw * 2 + 1 < 4294967296 ^ 500 ∧ re * 4 + 3 < 4294967296 ^ 500 := by
  have h1 := h.eT
  have h2 := h.eR
  have h3 := h.le
  have h4 := h.re0
  have h0 := h.r0
  have h5 : A / 4 ^ k ≤ A := Int.ediv_le_self _ hA
  have h6 : R ≤ R * R ∨ R = 0 := by
    rcases Int.lt_or_eq_of_le h0 with h | h
    · left
      have : R * 1 ≤ R * R := Int.mul_le_mul_of_nonneg_left (by omega) h0
      omega
    · right; exact h.symm
  have e1 : (4294967296 : Int) ^ 401 = 4294967296 ^ 400 * 4294967296 := Int.pow_succ _ _
  have e2 : (4294967296 : Int) ^ 402 = 4294967296 ^ 401 * 4294967296 := Int.pow_succ _ _
  have e3 : (4294967296 : Int) ^ 402 ≤ 4294967296 ^ 500 := pow_mono (by decide)
  have e4 := pow_pos 400
  generalize (4294967296 : Int) ^ 500 = c1 at *
  generalize (4294967296 : Int) ^ 402 = c2 at *
  generalize (4294967296 : Int) ^ 401 = c3 at *
  generalize (4294967296 : Int) ^ 400 = c4 at *
  have h7 : R * R ≤ A := by omega
  refine ⟨?_, ?_, ?_, ?_⟩ <;> rcases h6 with h6 | h6 <;> (try subst h6) <;> omega
/-- a root and what is left -/
def RetSq (w : World) (A : Int) (e : Ending) (w' : World) : Prop :=
  ∃ Ar nr cr As ns cs R re, e = .returned (.tuple #[.slice Ar nr cr, .slice As ns cs]) ∧ NV w' (.slice Ar nr cr) R ∧ NV w' (.slice As ns cs) re ∧ Hid (R * R + re = A ∧ 0 ≤ re ∧ re ≤ 2 * R ∧ 0 ≤ R) ∧ Below w.heap.size w w'
set_option maxRecDepth 100000 in
set_option maxHeartbeats 4000000 in
theorem squareRoot_c (v : Value) (a : List Int) (n : Nat) (w : World) (hs : Sl .u32 w v a) (La : Lim a) (hl : a.length ≤ 400) (h1 : lv a < 2 ^ n) (h2 : n = 0 ∨ 2 ^ (n - 1) ≤ lv a) (hn : n ≤ 12800) :
    Calls Tryd.prog 56 #[v, .int .i64 n] w (RetSq w (lv a)) := by
  obtain ⟨A, c, rfl, hc⟩ := hs.form
  obtain ⟨K, hK⟩ : ∃ K, K = (n + 1) / 2 := ⟨_, rfl⟩
  have hA0 := lv_nonneg La
  have hA4 : lv a < 4 ^ K := by
    refine Int.lt_of_lt_of_le h1 ?_
    rw [show (4 : Int) = 2 ^ 2 by decide, ← Int.pow_mul]
    exact_mod_cast Nat.pow_le_pow_right (by decide : 0 < 2) (show n ≤ 2 * K by omega)
  have hA5 : 0 < K → 4 ^ (K - 1) ≤ lv a := fun h0 => by
    rcases h2 with h2 | h2
    · omega
    · refine Int.le_trans ?_ h2
      rw [show (4 : Int) = 2 ^ 2 by decide, ← Int.pow_mul]
      exact_mod_cast Nat.pow_le_pow_right (by decide : 0 < 2) (show 2 * (K - 1) ≤ n - 1 by omega)
  have hnl : n ≤ 32 * a.length := by
    rcases h2 with h2 | h2
    · omega
    · have h3 := lv_lt La
      rw [pow_two] at h3
      have h4 : (2 : Int) ^ (n - 1) < 2 ^ (32 * a.length) := by omega
      have h5 : (2 : Nat) ^ (n - 1) < 2 ^ (32 * a.length) := by exact_mod_cast h4
      have := (Nat.pow_lt_pow_iff_right (by decide : 1 < 2)).1 h5
      omega
  have hA9 : lv a < 4294967296 ^ 400 := Int.lt_of_lt_of_le (lv_lt La) (pow_mono hl)
  have HS := Lib.hid hs
  have LA := Lib.hid La
  have H5 := Lib.hid hA5
  have BD := Lib.hid (fun R tw re k (h : SqI (lv a) K k R tw re) => root_bds h hA0 hA9)
  have PE := Lib.hid (fun i (h : i / 16 < a.length) => pair_eq La i h)
  have I0 := Lib.hid (SqI.start hA0 hA4)
  obtain ⟨x, ex⟩ : ∃ x, a.length = x := ⟨_, rfl⟩
  rw [ex] at hc HS PE hnl ⊢
  have EX := Lib.hid ex
  have hK1 : ((n : Int) + 1) / 2 = K := by omega
  have hK2 : K ≤ 6400 := by omega
  have hK3 : 2 * K ≤ n + 1 := by omega
  generalize lv a = Av at *
  clear hs La hl h1 h2 hA0 hA4 hA5 hA9 ex hK
  go_enter Tryd.func56, Tryd.ntmps56
  go_wp2
  go_loopw [8, 6, 7] (fun s8 s6 s7 wr => ∃ (k : Nat) (R tw re : Int) (At : Option Addr) (nt ct : Nat) (T : List Int) (Ar : Option Addr) (nr cr : Nat) (S : List Int), s8 = .int .i64 ((k : Int) - 1) ∧ k ≤ K ∧ s6 = .slice At nt ct ∧ s7 = .slice Ar nr cr ∧ Hid (SqI Av K k R tw re) ∧
      Hid (ON wr w.heap.size (.slice At nt ct) T tw) ∧ Hid (ON wr w.heap.size (.slice Ar nr cr) S re) ∧ Hid (Sep (.slice At nt ct) (.slice Ar nr cr)) ∧ Hid (Below w.heap.size w wr)) (fun s8 _ _ _ => (intOf s8 + 1).toNat)
  case atStart => exact ⟨K, 0, 0, 0, none, 0, 0, [], none, 0, 0, [], rfl, Nat.le_refl _, rfl, rfl, I0, ON.nil _ _, ON.nil _ _, (by intro g h; cases h), Below.refl _ _⟩
  case round =>
    obtain ⟨k, R, tw, re, At, nt, ct, T, Ar, nr, cr, S, rfl, hk, rfl, rfl, hI, hT, hS, hSep, hB⟩ := hrel
    clear hK1
    by_cases hk0 : 0 < k
    · obtain ⟨i, rfl⟩ : ∃ i, k = i + 1 := ⟨k - 1, by omega⟩
      have ik : ((i + 1 : Nat) : Int) - 1 = i := by omega
      have hix : i / 16 < x := by omega
      have hpe := PE.out i hix
      obtain ⟨j, hj⟩ : ∃ j, j = i / 16 := ⟨_, rfl⟩
      rw [← hj] at hpe hix
      obtain ⟨adx, cx, exx, _, _, hcx⟩ := (HS.out.below hB.out).at_ j (by rw [EX.out]; exact hix)
      injection exx with ex1 ex2 ex3
      subst ex1
      have bq := LA.out.at_ j
      obtain ⟨q, hq⟩ : ∃ q, a.getD j 0 = q := ⟨_, rfl⟩
      rw [hq] at hcx bq hpe
      obtain ⟨s, hs⟩ : ∃ s, s = i % 16 * 2 := ⟨_, rfl⟩
      rw [← hs] at hpe
      have hs1 : (i : Int) % 16 * 2 = s := by omega
      have hi1 : (i : Int) / 16 = (j : Int) := by omega
      have hi2 : (j : Int) < x := by omega
      have hs31 : s ≤ 31 := by omega
      have hp := two_pos s
      have q0 : 0 ≤ q / 2 ^ s := Int.ediv_nonneg bq.1 (Int.le_of_lt hp)
      have q1 : q / 2 ^ s < 4294967296 := Int.lt_of_le_of_lt (Int.ediv_le_self _ bq.1) bq.2
      have ha3 : bits .and .u32 (q / 2 ^ s) 3 = q / 2 ^ s % 4 := and3 _ q0 q1
      obtain ⟨p, hpp⟩ : ∃ p, q / 2 ^ s % 4 = p := ⟨_, rfl⟩
      rw [hpp] at ha3 hpe
      have p0 : 0 ≤ p ∧ p < 4 := by omega
      obtain ⟨b1, b2, b3, b4⟩ := BD.out _ _ _ _ hI.out
      have hTl := hT.out.len (by omega)
      have hSl := hS.out.len (by omega)
      clear ex2 ex3 hq hs hpp hj
      have wb := hB.out.size
      have P1 := push_c w.heap.size (.slice Ar nr cr) S 2 p wr hS.out.o hS.out.l hS.out.n (by decide) p0.1 (by simpa using p0.2) (by omega) wb
      rw [show lv S * 2 ^ 2 + p = re * 4 + p by rw [hS.out.v, show (2 : Int) ^ 2 = 4 by decide]] at P1
      have P1 : Calls Tryd.prog 84 #[.slice Ar nr cr, .int .i64 2, .int .u32 p] wr (RetPu wr w.heap.size (.slice Ar nr cr) (re * 4 + p)) := P1
      have P1 := Lib.hid P1
      have P2 : Hid (∀ W, ON W w.heap.size (.slice At nt ct) T tw → w.heap.size ≤ W.heap.size → Calls Tryd.prog 84 #[.slice At nt ct, .int .i64 1, .int .u32 1] W (RetPu W w.heap.size (.slice At nt ct) (tw * 2 + 1))) := fun W h h0 => by
        have P2 := push_c w.heap.size (.slice At nt ct) T 1 1 W h.o h.l h.n (by decide) (by decide) (by decide) (by omega) h0
        rw [show lv T * 2 ^ 1 + 1 = tw * 2 + 1 by rw [h.v, show (2 : Int) ^ 1 = 2 by decide]] at P2
        exact P2
      have KT : Hid (∀ W A1 n1 c1 X1, wr.grownBy W (Value.slice Ar nr cr).ownBlock → ON W w.heap.size (.slice A1 n1 c1) X1 (re * 4 + p) → ((Value.slice A1 n1 c1).ownBlock = (Value.slice Ar nr cr).ownBlock ∨ ∃ g, (Value.slice A1 n1 c1).ownBlock = some g ∧ wr.heap.size ≤ g) →
          ON W w.heap.size (.slice At nt ct) T tw ∧ Sep (.slice At nt ct) (.slice A1 n1 c1) ∧ Below w.heap.size w W ∧ w.heap.size ≤ W.heap.size) := fun W A1 n1 c1 X1 h1 h2 h3 => by
        have hb := hB.out.grown h1 wb fun k hk => (Own.lt hS.out.o k hk).1
        exact ⟨⟨keepO hT.out.o h1 hSep.out, hT.out.l, hT.out.n, hT.out.v⟩, sep_after hSep.out hT.out.o h3, hb, hb.size⟩
      have KS : Hid (∀ W1 W A1 n1 c1 X1 A2 n2 c2 X2, W1.grownBy W (Value.slice At nt ct).ownBlock → ON W1 w.heap.size (.slice At nt ct) T tw → ON W1 w.heap.size (.slice A1 n1 c1) X1 (re * 4 + p) → Sep (.slice At nt ct) (.slice A1 n1 c1) → Below w.heap.size w W1 → ON W w.heap.size (.slice A2 n2 c2) X2 (tw * 2 + 1) →
          ((Value.slice A2 n2 c2).ownBlock = (Value.slice At nt ct).ownBlock ∨ ∃ g, (Value.slice A2 n2 c2).ownBlock = some g ∧ W1.heap.size ≤ g) →
          ON W w.heap.size (.slice A1 n1 c1) X1 (re * 4 + p) ∧ Sep (.slice A1 n1 c1) (.slice A2 n2 c2) ∧ Below w.heap.size w W ∧ X2.length ≤ 500 ∧ X1.length ≤ 500) := fun W1 W A1 n1 c1 X1 A2 n2 c2 X2 h1 h0 h2 h3 h4 h5 h6 => by
        have hb := h4.grown h1 h4.size fun k hk => (Own.lt h0.o k hk).1
        exact ⟨⟨keepO h2.o h1 h3.symm, h2.l, h2.n, h2.v⟩, sep_after h3.symm h2.o h6, hb, h5.len b3, h2.len (by omega)⟩
      have twp : 0 < tw * 2 + 1 := by have := hI.out.eT; have := hI.out.r0; omega
      have tw4 : tw * 2 + 1 = 4 * R + 1 := by have := hI.out.eT; omega
      have HTW := Lib.hid tw4
      have CPR : Hid (∀ W A1 n1 c1 X1 A2 n2 c2 X2, ON W w.heap.size (.slice A1 n1 c1) X1 (re * 4 + p) → ON W w.heap.size (.slice A2 n2 c2) X2 (tw * 2 + 1) → X2.length ≤ 500 → X1.length ≤ 500 → Calls Tryd.prog 85 #[.slice A1 n1 c1, .slice A2 n2 c2] W (RetQ W (.int .i64 (cmpv (re * 4 + p) (tw * 2 + 1))))) := fun W A1 n1 c1 X1 A2 n2 c2 X2 h1 h2 h3 h4 => by
        have := compare_c _ _ X1 X2 W (Own.sl h1.o) (Own.sl h2.o) h1.l h2.l h1.n h2.n (by omega) (by omega)
        rwa [h1.v, h2.v] at this
      simp only [ik]
      clear ik
      by_cases hlt : re * 4 + p < tw * 2 + 1
      · have HI2 := Lib.hid (hI.out.less (H5.out (by omega)) hpe hlt)
        have hcm := Z.cmpv_lt hlt
        rw [hcm] at CPR
        clear hcm hlt hpe tw4 b1 b2 b3 b4 hTl hSl hI hT hS hSep hB
        go_wp2_with (first
          | (go_at_call 84; (with_reducible refine (P1.out).mono ?_); rintro e w1 ⟨A1, n1, c1, X1, rfl, h1, hg1, hat1⟩; have S1 : ON w1 w.heap.size (.slice A1 n1 c1) X1 (re * 4 + p) := ⟨h1.out.1, h1.out.2.1, h1.out.2.2.1, h1.out.2.2.2⟩; obtain ⟨T1, Sep1, B1, wb1⟩ := KT.out w1 A1 n1 c1 X1 hg1 S1 hat1; clear P1)
          | (go_at_call 84; (with_reducible refine (P2.out w1 T1 wb1).mono ?_); rintro e w2 ⟨A2, n2, c2, X2, rfl, h2, hg2, hat2⟩; have T2 : ON w2 w.heap.size (.slice A2 n2 c2) X2 (tw * 2 + 1) := ⟨h2.out.1, h2.out.2.1, h2.out.2.2.1, h2.out.2.2.2⟩; obtain ⟨S2, Sep2, B2, l2, l1⟩ := KS.out w1 w2 A1 n1 c1 X1 A2 n2 c2 X2 hg2 T1 S1 Sep1 B1 T2 hat2; obtain ⟨g2, rfl, hn2, hne2, hgb2, hgs2⟩ := ON.some_ T2 twp; have hcl := OwnU.cell T2.o 0 (List.length_pos_iff.2 hne2); have hfr := OwnU.frozen T2.o 0; have hx4 := low4 hne2 (T2.v.trans HTW.out); have bx := T2.l.at_ 0; have HN2 := Lib.hid hn2; have HNE2 := Lib.hid hne2; have n2p : 1 ≤ n2 := (by rw [hn2]; exact List.length_pos_iff.2 hne2); clear hn2 hne2; obtain ⟨x2, hx2⟩ : ∃ x2, X2.getD 0 0 = x2 := ⟨_, rfl⟩; rw [hx2] at hcl hx4 bx; have HX2 := Lib.hid hx2; clear hx2; have CP := CPR.out w2 A1 n1 c1 X1 _ n2 c2 X2 S2 T2 l2 l1; have CP := Lib.hid CP)
          | (go_at_call 85; (with_reducible refine (CP.out).mono ?_); rintro e w3 ⟨rfl, kq, rfl⟩))
        have T3 := T2.drewN kq
        have S3 := S2.drewN kq
        go_roundw
        case rel =>
          refine ⟨i, 2 * R, tw * 2, re * 4 + p, _, n2, c2, X2.set 0 (x2 - 1), A1, n1, c1, X1, by simp, by omega, rfl, rfl, HI2.out.1, ⟨OwnU.set_ T3.o 0 _, T3.l.set 0 (by omega) (by omega), nz_set0 T3.n ?_, ?_⟩, ⟨keepS S3.o ?_, S3.l, S3.n, S3.v⟩, Sep2.symm, ?_⟩
          · by_cases h1 : 1 < X2.length
            · exact .inr h1
            · left
              have e := lv_one (L := X2) (by have := List.length_pos_iff.2 HNE2.out; omega)
              have := T3.v
              have := HTW.out
              have := HI2.out.2
              have := HX2.out
              omega
          · rw [lv_set0 HNE2.out, HX2.out, T3.v]; omega
          · intro h; exact Sep2 g2 h rfl
          · exact (show Below w.heap.size w (w2.drewN kq) from ⟨B2.os, B2.tape, B2.output, B2.size, B2.block⟩).setCell hgb2 _
        case measure => simp [intOf]
      · have HI2 := Lib.hid (hI.out.more hpe (Int.not_lt.1 hlt))
        have q0 := Z.cmpv_ge0 hlt
        have rp : 0 < re * 4 + p := by omega
        have HLE := Lib.hid (Int.not_lt.1 hlt)
        generalize cmpv (re * 4 + p) (tw * 2 + 1) = cq at CPR q0
        have ec : decide (cq < 0) = false := by simp; omega
        have SF : Hid (∀ W g1 n1 c1 X1 A2 n2 c2 X2, ON W w.heap.size (.slice (some ⟨g1, 0, none⟩) n1 c1) X1 (re * 4 + p) → ON W w.heap.size (.slice A2 n2 c2) X2 (tw * 2 + 1) → Sep (.slice (some ⟨g1, 0, none⟩) n1 c1) (.slice A2 n2 c2) → X1.length ≤ 500 → Calls Tryd.prog 86 #[.slice (some ⟨g1, 0, none⟩) n1 c1, .slice A2 n2 c2] W (RetOw W w.heap.size g1 n1 c1 (re * 4 + p - (tw * 2 + 1)))) := fun W g1 n1 c1 X1 A2 n2 c2 X2 h1 h2 h3 h4 => by
          have := subFrom_own w.heap.size g1 n1 c1 X1 X2 (.slice A2 n2 c2) W h1.o (SlA.of (Own.sl h2.o) (by
            intro ad n' c' e h0 h5
            injection e with e1
            subst e1
            exact h3 g1 rfl (by rw [← h5]; rfl))) h1.l h2.l h2.n (by rw [h1.v, h2.v]; exact HLE.out) (by omega)
          rwa [h1.v, h2.v] at this
        clear hlt hpe tw4 b1 b2 b3 b4 hTl hSl hI hT hS hSep hB q0
        go_wp2_with (first
          | (go_at_call 84; (with_reducible refine (P1.out).mono ?_); rintro e w1 ⟨A1, n1, c1, X1, rfl, h1, hg1, hat1⟩; have S1 : ON w1 w.heap.size (.slice A1 n1 c1) X1 (re * 4 + p) := ⟨h1.out.1, h1.out.2.1, h1.out.2.2.1, h1.out.2.2.2⟩; obtain ⟨T1, Sep1, B1, wb1⟩ := KT.out w1 A1 n1 c1 X1 hg1 S1 hat1; clear P1)
          | (go_at_call 84; (with_reducible refine (P2.out w1 T1 wb1).mono ?_); rintro e w2 ⟨A2, n2, c2, X2, rfl, h2, hg2, hat2⟩; have T2 : ON w2 w.heap.size (.slice A2 n2 c2) X2 (tw * 2 + 1) := ⟨h2.out.1, h2.out.2.1, h2.out.2.2.1, h2.out.2.2.2⟩; obtain ⟨S2, Sep2, B2, l2, l1⟩ := KS.out w1 w2 A1 n1 c1 X1 A2 n2 c2 X2 hg2 T1 S1 Sep1 B1 T2 hat2; obtain ⟨g2, rfl, hn2, hne2, hgb2, hgs2⟩ := ON.some_ T2 twp; have hcl := OwnU.cell T2.o 0 (List.length_pos_iff.2 hne2); have hfr := OwnU.frozen T2.o 0; have hx4 := low4 hne2 (T2.v.trans HTW.out); have bx := T2.l.at_ 0; have HN2 := Lib.hid hn2; have HNE2 := Lib.hid hne2; have n2p : 1 ≤ n2 := (by rw [hn2]; exact List.length_pos_iff.2 hne2); clear hn2 hne2; obtain ⟨x2, hx2⟩ : ∃ x2, X2.getD 0 0 = x2 := ⟨_, rfl⟩; rw [hx2] at hcl hx4 bx; have HX2 := Lib.hid hx2; clear hx2; have CP := CPR.out w2 A1 n1 c1 X1 _ n2 c2 X2 S2 T2 l2 l1; have CP := Lib.hid CP)
          | (go_at_call 85; (with_reducible refine (CP.out).mono ?_); rintro e w3 ⟨rfl, kq, rfl⟩; obtain ⟨g1, rfl, hn1, hne1, hgb1, hgs1⟩ := ON.some_ S2 rp; have SF1 := Lib.hid (SF.out (w2.drewN kq) g1 n1 c1 X1 _ n2 c2 X2 (S2.drewN kq) (T2.drewN kq) Sep2 l1); clear hn1 hne1)
          | (go_at_call 86; (with_reducible refine (SF1.out).mono ?_); rintro e w4 ⟨M4, rfl, hg4, h4⟩; have TR4 := Lib.hid (trim_c (some ⟨g1, 0, none⟩) n1 c1 M4 w4 (Own.sl h4.out.1) (by rw [h4.out.2.1]; have := (Own.sl S2.o).len_.1; omega)); have T4 : OwnU w4 w.heap.size (.slice (some ⟨g2, 0, none⟩) n2 c2) X2 := keepO (u := .slice (some ⟨g1, 0, none⟩) n1 c1) (T2.drewN kq).o hg4 Sep2.symm; have hcl4 := OwnU.cell T4 0 (by have := HN2.out; omega); rw [HX2.out] at hcl4; have hfr4 := OwnU.frozen T4 0; clear hcl hfr)
          | (go_at_call 58; (with_reducible refine (TR4.out).mono ?_); rintro e w5 ⟨m5, rfl, hm5, hz5, hv5, rfl⟩))
        have hSr := OwnU.take h4.out.1 (show m5 ≤ n1 by have := h4.out.2.1; omega) (by intro h; cases h)
        refine ⟨⟨i, 2 * R + 1, tw * 2 + 1 + 1, re * 4 + p - (tw * 2 + 1), _, n2, c2, X2.set 0 (x2 + 1), _, m5, c1, M4.take m5, by simp, by omega, rfl, rfl, HI2.out, ⟨OwnU.set_ T4 0 _, T2.l.set 0 (by omega) (by omega), nz_set0 T2.n (.inl (by omega)), ?_⟩, ⟨keepS hSr ?_, h4.out.2.2.1.take m5, hz5, hv5.trans h4.out.2.2.2⟩, ?_, ?_⟩, by simp only [intOf]; omega⟩
        · rw [lv_set0 HNE2.out, HX2.out, T2.v]; omega
        · intro h; exact Sep2 g1 rfl h.symm
        · intro g h1 h2; exact Sep2 g h2 h1
        · exact ((show Below w.heap.size w (w2.drewN kq) from ⟨B2.os, B2.tape, B2.output, B2.size, B2.block⟩).grown hg4 (by exact B2.size) (fun k hk => by injection hk with hk; omega)).setCell hgb2 _
    · obtain rfl : k = 0 := by omega
      have hD := Lib.hid hI.out.done
      have hTl := hT.out.len (by have := (BD.out _ _ _ _ hI.out).2.2.1; have := hI.out.eT; have := hI.out.r0; omega)
      have SD := shiftDown_c _ T 1 wr (Own.sl hT.out.o) hT.out.l (by omega) (by decide)
      rw [hT.out.v, hI.out.eT, show (2 : Int) ^ 1 = 2 by decide, show 2 * R / 2 = R by omega] at SD
      have SD : Calls Tryd.prog 53 #[.slice At nt ct, .int .i64 1] wr (RetV wr R) := SD
      have SD := Lib.hid SD
      go_wp2_with (first | (go_at_call 53; (with_reducible refine (SD.out).mono ?_); rintro e w5 ⟨A5, n5, c5, rfl, hV5, hb5⟩))
      go_ret2
      exact ⟨A5, n5, c5, Ar, nr, cr, R, re, rfl, hV5, NV.below ⟨S, Own.sl hS.out.o, hS.out.l, hS.out.n, hS.out.v⟩ hb5, hD, hB.out.trans (hb5.mono hB.out.size)⟩
end NC
end Go.Proofs.YtnpeokgjfnobmaaDoor

/-
  Package nat: Bits, Root.
-/
namespace Go.Proofs.YtnpeokgjfnobmaaDoor
set_option linter.unusedVariables false
set_option linter.unusedSimpArgs false
open Go.RowKit
set_option linter.unusedVariables false
namespace NC
open L
open Z (Nz Tz cmpv)
/-- how many bits -/
def RetBits (w : World) (er z : Int) (e : Ending) (w' : World) : Prop := ∃ n : Nat, e = .returned (.tuple #[.int .i64 n, .int .i64 er]) ∧ n ≤ 12800 ∧ Hid (er = 0 → z < 2 ^ n ∧ (n = 0 ∨ 2 ^ (n - 1) ≤ z)) ∧ Hid (er ≠ 0 → n = 0) ∧ w = w'
theorem Bits_c (v : Value) (l : List Int) (w : World) (hs : Sl .u32 w v l) (hl : l.length ≤ 9223372036854775807) (Ll : Lim l) : Calls Tryd.prog 10 #[v] w (RetBits w (chk l) (lv l)) := by
  have C := Lib.hid (Check_c v l w hs hl)
  obtain ⟨A, c, rfl, hc⟩ := hs.form
  obtain ⟨r, hr⟩ : ∃ r, r = chk l := ⟨_, rfl⟩
  rw [← hr] at C ⊢
  by_cases h : r = 0
  · have h1 := chk_ok.1 (hr.symm.trans h)
    by_cases hne : l = []
    · subst hne
      have e0 : (([] : List Int).length : Int) = 0 := by simp
      clear hs hl Ll hr h1
      subst h
      simp only [List.length_nil] at C hc ⊢
      go_enter Tryd.func10, Tryd.ntmps10
      go_wp2_with (first | (go_at_call 51; (with_reducible refine (C.out).mono ?_); rintro e w' ⟨rfl, rfl⟩))
      go_ret2
      exact ⟨0, rfl, by omega, fun _ => ⟨by simp [lv], .inl rfl⟩, fun h => rfl, rfl⟩
    · obtain ⟨m, hm⟩ : ∃ m, l.length = m + 1 := ⟨l.length - 1, by have := List.length_pos_iff.2 hne; omega⟩
      obtain ⟨ad, c', e, hc', _, hcell⟩ := hs.at_ m (by omega)
      injection e with e1 e2 e3
      subst e1
      have htop : 0 < l.getD m 0 := by
        have h2 := h1.2 hne
        rw [List.getLast_eq_getElem] at h2
        have h3 : l.getD m 0 = l[l.length - 1]'(by omega) := by
          rw [List.getD_eq_getElem?_getD, List.getElem?_eq_getElem (by omega)]
          simp [hm]
        have := Ll.at_ m
        rw [h3] at this ⊢
        omega
      have bt := Ll.at_ m
      obtain ⟨t1, t2⟩ := top_bd Ll hm
      obtain ⟨n, hn1, hn2, hn3, hn4⟩ := bitLen_bd (l.getD m 0) htop (by omega)
      have LN := Len32_c (l.getD m 0) w (by omega) (by omega)
      rw [hn1] at LN
      have LN := Lib.hid LN
      have hp := pow_pos m
      have b1 : lv l < 2 ^ (32 * m + n + 1) := by
        rw [show 32 * m + n + 1 = 32 * m + (n + 1) by omega, Int.pow_add, ← pow_two]
        exact Int.lt_of_lt_of_le t2 (Int.mul_le_mul_of_nonneg_left (by omega) (Int.le_of_lt hp))
      have b2 : 2 ^ (32 * m + n) ≤ lv l := by
        rw [Int.pow_add, ← pow_two]
        exact Int.le_trans (Int.mul_le_mul_of_nonneg_left hn3 (Int.le_of_lt hp)) t1
      have HB := Lib.hid (And.intro b1 b2)
      have hm4 : m + 1 ≤ 400 := by have := h1.1; omega
      rw [hm] at hc C ⊢
      generalize l.getD m 0 = tp at *
      clear hs hl Ll hr h1 hne hm htop t1 t2 hn1 hn3 hn4 b1 b2 hp e2 e3 hc'
      subst h
      have e1 : ((m : Int) + 1 == 0) = false := by simp; omega
      go_enter Tryd.func10, Tryd.ntmps10
      go_wp2_with (first | (go_at_call 51; (with_reducible refine (C.out).mono ?_); rintro e w' ⟨rfl, rfl⟩) | (go_at_call 52; (with_reducible refine (LN.out).mono ?_); rintro e w' ⟨rfl, rfl⟩))
      go_ret2
      refine ⟨32 * m + n + 1, ?_, by omega, fun _ => ⟨HB.out.1, .inr (by simpa using HB.out.2)⟩, fun h => absurd rfl h, rfl⟩
      have e5 : ((32 * m + n + 1 : Nat) : Int) = (m : Int) * 32 + ((n : Int) + 1) := by omega
      rw [e5]
      rfl
  · have e1 : (r != 0) = true := by simp [h]
    clear hs hl Ll hr
    have H := Lib.hid h
    clear h
    go_enter Tryd.func10, Tryd.ntmps10
    go_wp2_with (first | (go_at_call 51; (with_reducible refine (C.out).mono ?_); rintro e w' ⟨rfl, rfl⟩))
    go_ret2
    exact ⟨0, rfl, by omega, fun h => absurd h H.out, fun _ => rfl, rfl⟩
/-- a root, and whether something is left -/
def RetRt (w : World) (er z : Int) (e : Ending) (w' : World) : Prop :=
  ∃ A n c b R, e = .returned (.tuple #[.slice A n c, .bool b, .int .i64 er]) ∧ NV w' (.slice A n c) R ∧ Below w.heap.size w w' ∧ Hid (er = 0 → R * R ≤ z ∧ z < (R + 1) * (R + 1) ∧ 0 ≤ R ∧ b = decide (R * R ≠ z)) ∧ Hid (er ≠ 0 → R = 0 ∧ b = false)
theorem Root_c (v : Value) (l : List Int) (w : World) (hs : Sl .u32 w v l) (hl : l.length ≤ 9223372036854775807) (Ll : Lim l) : Calls Tryd.prog 12 #[v] w (RetRt w (chk l) (lv l)) := by
  have C := Lib.hid (Bits_c v l w hs hl Ll)
  have HSQ : Hid (chk l = 0 → ∀ n : Nat, lv l < 2 ^ n → (n = 0 ∨ 2 ^ (n - 1) ≤ lv l) → n ≤ 12800 → Calls Tryd.prog 56 #[v, .int .i64 n] w (RetSq w (lv l))) := fun h n h1 h2 h3 =>
    squareRoot_c v l n w hs Ll (chk_ok.1 h).1 h1 h2 h3
  obtain ⟨A, c, rfl, hc⟩ := hs.form
  obtain ⟨r, hr⟩ : ∃ r, r = chk l := ⟨_, rfl⟩
  rw [← hr] at C HSQ ⊢
  generalize lv l = z at *
  generalize l.length = x at *
  clear hs hl Ll hr
  by_cases h : r = 0
  · subst h
    go_enter Tryd.func12, Tryd.ntmps12
    go_wp2_with (first | (go_at_call 10; (with_reducible refine (C.out).mono ?_); rintro e w1 ⟨n, rfl, hn, h1, h2, rfl⟩ ; have SQ := Lib.hid (HSQ.out rfl n (h1.out rfl).1 (h1.out rfl).2 hn)) | (go_at_call 56; (with_reducible refine (SQ.out).mono ?_); rintro e w2 ⟨A1, n1, c1, A2, n2, c2, R, re, rfl, hv1, hv2, hq, hb⟩))
    go_ret3
    refine ⟨A1, n1, c1, _, R, rfl, hv1, hb, fun _ => ?_, fun h => absurd rfl h⟩
    obtain ⟨q1, q2, q3, q4⟩ := hq.out
    refine ⟨by omega, by rw [← q1]; grind, q4, ?_⟩
    by_cases hre : re = 0
    · have e2 : n2 = 0 := by
        obtain ⟨L, s1, s2, s3, s4⟩ := hv2
        have e := lv_inj s2 Lim.nil s3 (by intro h; exact absurd rfl h) (s4.trans (hre.trans (show (0 : Int) = lv [] from rfl)))
        have := s1.len_.1
        rw [this, e]; rfl
      subst e2
      have : R * R = z := by omega
      simp [this]
    · have e2 : 0 < n2 := by
        obtain ⟨L, s1, s2, s3, s4⟩ := hv2
        rcases Nat.eq_zero_or_pos n2 with h | h
        · exfalso
          have h5 := s1.len_.1
          rw [h] at h5
          have := List.eq_nil_of_length_eq_zero h5.symm
          rw [this] at s4
          exact hre s4.symm
        · exact h
      have : R * R ≠ z := by omega
      simp [this, e2]
  · have e1 : (r != 0) = true := by simp [h]
    have H := Lib.hid h
    clear h
    go_enter Tryd.func12, Tryd.ntmps12
    go_wp2_with (first | (go_at_call 10; (with_reducible refine (C.out).mono ?_); rintro e w1 ⟨n, rfl, hn, h1, h2, rfl⟩))
    go_ret3
    exact ⟨none, 0, 0, false, 0, rfl, NV.nil _ _ _, Below.refl _ _, fun h => absurd h H.out, fun _ => ⟨rfl, rfl⟩⟩
end NC
end Go.Proofs.YtnpeokgjfnobmaaDoor

/-
  Plain mathematics: decimal digits, the lowest first; noughts at the end; a list turned round in place; division by a limb.
-/
namespace Go.Proofs.YtnpeokgjfnobmaaDoor.L
set_option linter.unusedVariables false
set_option linter.unusedSimpArgs false
open Z (Nz Tz cmpv)
/-- so many decimal digits of n, the lowest first, as bytes' numbers -/
def dlr (n : Nat) : Nat → List Int
  | 0 => []
  | k + 1 => (48 + (n % 10 : Nat) : Int) :: dlr (n / 10) k
theorem dlr_len (n k : Nat) : (dlr n k).length = k := by
  induction k generalizing n with
  | zero => rfl
  | succ k ih => simp [dlr, ih]
theorem dlr_succ (n k : Nat) : dlr n (k + 1) = dlr n k ++ [(48 + (n / 10 ^ k % 10 : Nat) : Int)] := by
  induction k generalizing n with
  | zero => simp [dlr]
  | succ k ih =>
    rw [dlr, ih (n / 10), dlr]
    simp only [List.cons_append]
    rw [Nat.div_div_eq_div_mul, Nat.pow_succ, Nat.mul_comm 10]
theorem dlr_zero (k : Nat) : dlr 0 k = List.replicate k 48 := by
  induction k with
  | zero => rfl
  | succ k ih => simp [dlr, ih, List.replicate_succ]
/-- the decimal text, the lowest first -/
def rdec (n : Nat) : List Int := (dec n).reverse.map fun u => (u.toNat : Int)
theorem rdec_small {n : Nat} (h : n < 10) : rdec n = [(48 + n : Int)] := by
  unfold rdec
  rw [dec_small h]
  simp only [List.reverse_cons, List.reverse_nil, List.nil_append, List.map_cons, List.map_nil]
  unfold dg
  congr 1
  rw [UInt8.toNat_ofNat']
  omega
theorem rdec_more {n : Nat} (h : ¬ n < 10) : rdec n = (48 + (n % 10 : Nat) : Int) :: rdec (n / 10) := by
  unfold rdec
  rw [dec_more h]
  simp only [List.reverse_append, List.reverse_cons, List.reverse_nil, List.nil_append, List.map_cons, List.singleton_append]
  unfold dg
  congr 1
  rw [UInt8.toNat_ofNat']
  omega
theorem rdec_spec (n : Nat) (h0 : 0 < n) : rdec n ≠ [] ∧ (∀ h : rdec n ≠ [], (rdec n).getLast h ≠ 48) ∧ 10 ^ ((rdec n).length - 1) ≤ n ∧ ∀ k, (rdec n).length ≤ k → dlr n k = rdec n ++ List.replicate (k - (rdec n).length) 48 := by
  induction n using Nat.strongRecOn with
  | ind n ih =>
    by_cases h : n < 10
    · rw [rdec_small h]
      refine ⟨by simp, fun _ => by simp; omega, by simp; omega, fun k hk => ?_⟩
      obtain ⟨k, rfl⟩ : ∃ k', k = k' + 1 := ⟨k - 1, by simp at hk; omega⟩
      rw [dlr, show n / 10 = 0 by omega, dlr_zero, Nat.mod_eq_of_lt h]
      simp
    · obtain ⟨h1, h2, h3, h4⟩ := ih (n / 10) (by omega) (by omega)
      rw [rdec_more h]
      have hl := List.length_pos_iff.2 h1
      refine ⟨by simp, fun _ => ?_, ?_, fun k hk => ?_⟩
      · rw [List.getLast_cons h1]; exact h2 h1
      · rw [List.length_cons, Nat.add_sub_cancel]
        have : 10 ^ (rdec (n / 10)).length = 10 ^ ((rdec (n / 10)).length - 1) * 10 := by rw [← Nat.pow_succ]; congr 1; omega
        omega
      · rw [List.length_cons] at hk
        obtain ⟨k, rfl⟩ : ∃ k', k = k' + 1 := ⟨k - 1, by omega⟩
        rw [dlr, h4 k (by omega), List.length_cons, Nat.add_sub_add_right]; rfl
theorem trim_uniq {A B : List Int} {i j : Nat} (h : A ++ List.replicate i 48 = B ++ List.replicate j 48) (hA : ∀ h : A ≠ [], A.getLast h ≠ 48) (hB : ∀ h : B ≠ [], B.getLast h ≠ 48) : A = B := by
  have key : ∀ (A B : List Int) (i j : Nat), A ++ List.replicate i (48 : Int) = B ++ List.replicate j 48 → (∀ h : B ≠ [], B.getLast h ≠ 48) → ¬ A.length < B.length := by
    intro A B i j h hB hlt
    have hne : B ≠ [] := by intro e; subst e; simp at hlt
    refine hB hne ?_
    rw [List.getLast_eq_getElem]
    have e : (A ++ List.replicate i (48 : Int))[B.length - 1]? = (B ++ List.replicate j 48)[B.length - 1]? := by rw [h]
    have hl := congrArg List.length h
    simp only [List.length_append, List.length_replicate] at hl
    rw [List.getElem?_append_right (by omega), List.getElem?_append_left (by omega), List.getElem?_replicate, if_pos (by omega), List.getElem?_eq_getElem (by omega)] at e
    injection e with e
    exact e.symm
  have h1 := key A B i j h hB
  have h2 := key B A j i h.symm hA
  have hl : A.length = B.length := by omega
  exact (List.append_inj h hl).1
/-- what is left when the noughts at the end are struck is the text, the lowest first -/
theorem strip_dec {n k m : Nat} (h0 : 0 < n) (hk : n < 10 ^ k) (hm : m ≤ k) (ht : ∀ d ∈ (dlr n k).drop m, d = 48) (hl : m = 0 ∨ (dlr n k).getD (m - 1) 0 ≠ 48) : (dlr n k).take m = rdec n := by
  obtain ⟨h1, h2, h3, h4⟩ := rdec_spec n h0
  have hlen : (rdec n).length ≤ k := by
    rcases Nat.lt_or_ge k (rdec n).length with h | h
    · have := Nat.pow_le_pow_right (by decide : 0 < 10) (show k ≤ (rdec n).length - 1 by omega)
      omega
    · exact h
  have e1 := h4 k hlen
  have e2 : dlr n k = (dlr n k).take m ++ List.replicate (k - m) 48 := by
    have : (dlr n k).drop m = List.replicate (k - m) 48 := by
      have e := List.eq_replicate_of_mem (a := (48 : Int)) ht
      rw [List.length_drop, dlr_len] at e
      exact e
    rw [← this, List.take_append_drop]
  refine trim_uniq (e2.symm.trans e1) (fun hne => ?_) h2
  rcases hl with rfl | hl
  · simp at hne
  · have hm0 : 0 < m := by rcases Nat.eq_zero_or_pos m with rfl | h; · simp at hne
                           · exact h
    rw [List.getLast_eq_getElem]
    have hlm : ((dlr n k).take m).length = m := by rw [List.length_take, dlr_len]; omega
    have hlk := dlr_len n k
    rw [List.getD_eq_getElem?_getD, List.getElem?_eq_getElem (by omega)] at hl
    simp only [List.getElem_take, hlm]
    exact hl
theorem rdec_rev (n : Nat) : (rdec n).reverse = (dec n).map fun u => (u.toNat : Int) := by unfold rdec; rw [List.map_reverse, List.reverse_reverse]
/-- division by one limb under way, from the highest one on -/
structure DbI (X : List Int) (q : Int) (k : Nat) (M : List Int) (r : Int) : Prop where
  len : M.length = X.length
  lim : Lim M
  r0 : 0 ≤ r
  r1 : r < q
  rest : ∀ j, j < k → M.getD j 0 = X.getD j 0
  sum : lv (M.drop k) * q + r = lv (X.drop k)
theorem DbI.start {X : List Int} {q : Int} (h : Lim X) (h0 : 0 < q) : DbI X q X.length X 0 := ⟨rfl, h, by omega, h0, fun _ _ => rfl, by simp [lv]⟩
theorem DbI.step {X M : List Int} {q r x : Int} {k : Nat} (h : DbI X q (k + 1) M r) (hk : k < X.length) (hx : X.getD k 0 = x) (x0 : 0 ≤ x) (x1 : x < 4294967296) :
    DbI X q k (M.set k ((r * 4294967296 + x) / q)) ((r * 4294967296 + x) % q) ∧ (r * 4294967296 + x) / q < 4294967296 ∧ 0 ≤ (r * 4294967296 + x) / q := by
  have r0 := h.r0
  have r1 := h.r1
  have hq : 0 < q := by omega
  have e := Int.emod_add_mul_ediv (r * 4294967296 + x) q
  have z0 : 0 ≤ (r * 4294967296 + x) / q := Int.ediv_nonneg (by omega) (by omega)
  have z1 : (r * 4294967296 + x) / q < 4294967296 := by rw [Int.ediv_lt_iff_lt_mul hq]; omega
  refine ⟨⟨by simp [h.len], h.lim.set _ z0 z1, Int.emod_nonneg _ (by omega), Int.emod_lt_of_pos _ hq, fun j hj => ?_, ?_⟩, z1, z0⟩
  · rw [getD_set (by rw [h.len]; exact hk), if_neg (by omega)]; exact h.rest j (by omega)
  · have hkM : k < M.length := by rw [h.len]; exact hk
    have e1 := lv_drop (L := M.set k ((r * 4294967296 + x) / q)) k (by simp [h.len]; exact hk)
    rw [getD_set (by rw [h.len]; exact hk), if_pos rfl, show (M.set k ((r * 4294967296 + x) / q)).drop (k + 1) = M.drop (k + 1) by rw [List.drop_set, if_pos (by omega)]] at e1
    rw [e1, lv_drop (L := X) k hk, hx, ← h.sum]
    grind
theorem DbI.done {X M : List Int} {q r : Int} (h : DbI X q 0 M r) : lv M = lv X / q ∧ r = lv X % q := by
  have e := h.sum
  simp only [List.drop_zero] at e
  have r0 := h.r0
  have r1 := h.r1
  rw [← e]
  refine ⟨?_, ?_⟩
  · rw [Int.add_comm, Int.add_mul_ediv_right _ _ (by omega), Int.ediv_eq_zero_of_lt r0 r1]; omega
  · rw [Int.add_comm, Int.add_mul_emod_self_right, Int.emod_eq_of_lt r0 r1]
/-- a list being turned round in place -/
structure RvI (X : List Int) (i : Nat) (M : List Int) : Prop where
  len : M.length = X.length
  cell : ∀ t, t < X.length → M.getD t 0 = if t < i ∨ X.length - 1 - i < t then X.getD (X.length - 1 - t) 0 else X.getD t 0
theorem RvI.start (X : List Int) : RvI X 0 X := ⟨rfl, fun t ht => by rw [if_neg (by omega)]⟩
theorem RvI.step {X M : List Int} {i : Nat} (h : RvI X i M) (hi : 2 * i + 1 < X.length) : RvI X (i + 1) ((M.set i (M.getD (X.length - 1 - i) 0)).set (X.length - 1 - i) (M.getD i 0)) := by
  have hl := h.len
  have hl1 : (M.set i (M.getD (X.length - 1 - i) 0)).length = X.length := by simp [hl]
  refine ⟨by simp [hl], fun t ht => ?_⟩
  rw [getD_set (by omega), getD_set (by omega)]
  have c1 := h.cell i (by omega)
  have c2 := h.cell (X.length - 1 - i) (by omega)
  rw [if_neg (by omega)] at c1 c2
  by_cases e1 : t = X.length - 1 - i
  · subst e1
    rw [if_pos rfl, if_pos (by omega), c1]
    congr 1; omega
  · rw [if_neg e1]
    by_cases e2 : t = i
    · subst e2
      rw [if_pos rfl, if_pos (by omega), c2]
    · rw [if_neg e2, h.cell t ht]
      by_cases e3 : t < i ∨ X.length - 1 - i < t
      · rw [if_pos e3, if_pos (by omega)]
      · rw [if_neg e3, if_neg (by omega)]
theorem RvI.done {X M : List Int} {i : Nat} (h : RvI X i M) (hi : X.length ≤ 2 * i + 1) : M = X.reverse := by
  have hl := h.len
  apply List.ext_getElem (by simp [hl])
  intro t h1 h2
  have c := h.cell t (by omega)
  rw [List.getElem_reverse]
  rw [List.getD_eq_getElem?_getD, List.getElem?_eq_getElem (by omega)] at c
  by_cases e : t < i ∨ X.length - 1 - i < t
  · rw [if_pos e, List.getD_eq_getElem?_getD, List.getElem?_eq_getElem (by omega)] at c
    exact c
  · rw [if_neg e, List.getD_eq_getElem?_getD, List.getElem?_eq_getElem (by omega)] at c
    have : X.length - 1 - t = t := by omega
    simp only [this]
    exact c
end Go.Proofs.YtnpeokgjfnobmaaDoor.L

/-
  Package nat: divideBy; bytes.TrimRight and slices.Reverse of bytes.
-/
namespace Go.Proofs.YtnpeokgjfnobmaaDoor
set_option linter.unusedVariables false
set_option linter.unusedSimpArgs false
open Go.RowKit
set_option linter.unusedVariables false
namespace NC
open L
open Z (Nz Tz cmpv)
theorem divideBy_c (g o n c : Nat) (cs : Array Value) (X : List Int) (q : Int) (w : World) (hb : Blk w g 56 cs) (hx : Wn cs o X) (hn : X.length = n) (LX : Lim X) (hN : n ≤ 1000000000) (hc : n ≤ c) (hq : 0 < q ∧ q < 4294967296) :
    Calls Tryd.prog 59 #[.slice (some ⟨g, o, none⟩) n c, .int .u32 q] w (RetEd w g cs o n fun M k => lv M = lv X / q ∧ k = lv X % q) := by
  have E0 := Lib.hid (Ed.start hb hx hn)
  have HX := Lib.hid LX
  have I0 := DbI.start (q := q) LX hq.1
  rw [hn] at I0
  have I0 := Lib.hid I0
  have HN := Lib.hid hn
  clear hb hx LX hn
  go_enter Tryd.func59, Tryd.ntmps59
  go_wp2
  go_loopw [6, 5] (fun iv rv wr => ∃ (k : Nat) (M : List Int) (r : Int), iv = .int .i64 ((k : Int) - 1) ∧ k ≤ n ∧ rv = .int .u64 r ∧ Hid (DbI X q k M r) ∧ Hid (Ed w wr g cs o n M)) (fun iv _ _ => (intOf iv + 1).toNat)
  case atStart => exact ⟨n, X, 0, rfl, Nat.le_refl _, rfl, I0, E0⟩
  case round =>
    obtain ⟨k, M, r, rfl, hk, rfl, hI, hE⟩ := hrel
    have r0 := hI.out.r0
    have r1 := hI.out.r1
    by_cases hk0 : 0 < k
    · obtain ⟨i, rfl⟩ : ∃ i, k = i + 1 := ⟨k - 1, by omega⟩
      have ik : ((i + 1 : Nat) : Int) - 1 = i := by omega
      have hin : i < n := by omega
      have hxc := hE.out.cell i hin
      rw [hI.out.rest i (by omega)] at hxc
      have fx := hE.out.frozen (o + i)
      have bx := HX.out.at_ i
      obtain ⟨x, ex⟩ : ∃ x, X.getD i 0 = x := ⟨_, rfl⟩
      rw [ex] at hxc bx
      obtain ⟨s1, z1, z0⟩ := hI.out.step (by rw [HN.out]; exact hin) ex bx.1 bx.2
      have hor : bits .or .u64 (r * 4294967296) x = r * 4294967296 + x := or_high64 _ _ (by omega) (by omega) (by omega) bx.1 bx.2
      have m0 := Int.emod_nonneg (r * 4294967296 + x) (show q ≠ 0 by omega)
      have m1 := Int.emod_lt_of_pos (r * 4294967296 + x) hq.1
      have S1 := Lib.hid s1
      have hE2 : Hid (∀ z, Ed w (wr.setCell ⟨g, o + i, none⟩ (.int .u32 z)) g cs o n (M.set i z)) := fun z => hE.out.set_ i hin z
      have i1 : (i : Int) < n := by omega
      obtain ⟨t, ht⟩ : ∃ t, r * 4294967296 + x = t := ⟨_, rfl⟩
      have t0 : 0 ≤ t := by omega
      have t1 : t < 18446744073709551616 := by omega
      rw [ht] at hor S1 m0 m1 z0 z1
      clear ex s1 ht
      simp only [ik]
      clear ik
      go_wp2
      exact ⟨⟨i, _, _, by simp, by omega, rfl, S1.out, hE2.out _⟩, by simp only [intOf]; omega⟩
    · obtain rfl : k = 0 := by omega
      have hD := Lib.hid hI.out.done
      go_wp2
      go_ret
      exact ⟨M, r, rfl, hE.out, hI.out.lim, r0, by omega, hD⟩
/-- bytes.trimRightByte: the same slice, maybe shorter -/
def RetTb (w : World) (A : Option Addr) (c : Nat) (L : List Int) (b : Int) (e : Ending) (w' : World) : Prop :=
  ∃ m, e = .returned (.slice A m c) ∧ m ≤ L.length ∧ Hid ((∀ d ∈ L.drop m, d = b) ∧ (m = 0 ∨ L.getD (m - 1) 0 ≠ b)) ∧ w = w'
theorem trimRightByte_c (A : Option Addr) (n c : Nat) (L : List Int) (b : Int) (w : World) (hs : Sl .u8 w (.slice A n c) L) (hn : L.length ≤ 1000000000) :
    Calls Tryd.prog 87 #[.slice A n c, .int .u8 b] w (RetTb w A c L b) := by
  obtain ⟨en, hc⟩ := hs.len_
  rw [← en] at hn hc
  have EN := Lib.hid en
  have HS := Lib.hid hs
  clear en hs
  go_enter Tryd.func87, Tryd.ntmps87
  go_wp2
  go_loop [0] (fun v => ∃ k : Nat, k ≤ n ∧ v = .slice A k c ∧ Hid (∀ d ∈ L.drop k, d = b)) (fun v => match v with | .slice _ k _ => k | _ => 0)
  case atStart => exact ⟨n, Nat.le_refl _, rfl, by intro d hd; rw [EN.out, List.drop_length] at hd; cases hd⟩
  case round =>
    obtain ⟨k, hk, rfl, htz⟩ := hrel
    by_cases hk0 : 0 < k
    · obtain ⟨ad, c', e, hc', hb, hcell⟩ := HS.out.at_ (k - 1) (by rw [← EN.out]; omega)
      injection e with e1 e2 e3
      subst e1
      clear e2 e3 hc' c' hb
      obtain ⟨z, hz⟩ : ∃ z, L.getD (k - 1) 0 = z := ⟨_, rfl⟩
      rw [hz] at hcell
      have HZ := Lib.hid hz
      clear hz
      by_cases h0 : z = b
      · have h1 : (z == b) = true := by simp [h0]
        have HT2 : Hid (∀ d ∈ L.drop (k - 1), d = b) := by
          intro d hd
          rw [List.drop_eq_getElem_cons (by rw [← EN.out]; omega)] at hd
          rcases List.mem_cons.1 hd with rfl | hd
          · have := HZ.out
            rw [List.getD_eq_getElem?_getD, List.getElem?_eq_getElem (by rw [← EN.out]; omega)] at this
            exact this.trans h0
          · rw [show k - 1 + 1 = k by omega] at hd; exact htz.out d hd
        clear h0
        go_wp2
        go_round
        case rel => exact ⟨k - 1, by omega, by simp, HT2.out⟩
        case measure => simp; omega
      · have h1 : (z == b) = false := by simp [h0]
        have HNZ := Lib.hid h0
        clear h0
        go_wp2
        go_ret
        exact ⟨k, rfl, by rw [← EN.out]; exact hk, ⟨htz.out, .inr (by rw [HZ.out]; exact HNZ.out)⟩, rfl⟩
    · obtain rfl : k = 0 := by omega
      go_wp2
      go_ret
      exact ⟨0, rfl, by omega, ⟨htz.out, .inl rfl⟩, rfl⟩
set_option maxRecDepth 100000 in
theorem TrimRight_c (A : Option Addr) (n c : Nat) (L : List Int) (w : World) (hs : Sl .u8 w (.slice A n c) L) (hn : L.length ≤ 1000000000) (h0 : L ≠ []) :
    Calls Tryd.prog 60 #[.slice A n c, .string ⟨#[48]⟩] w (RetTb w A c L 48) := by
  have T := Lib.hid (trimRightByte_c A n c L 48 w hs hn)
  obtain ⟨en, hc⟩ := hs.len_
  have hp := List.length_pos_iff.2 h0
  have e1 : ((n : Int) == 0) = false := by simp; omega
  have hn2 : n ≤ 1000000000 := by omega
  clear hs hn h0 en hc hp
  go_enter Tryd.func60, Tryd.ntmps60
  go_wp2_with (go_at_call 87; refine (T.out).mono ?_; rintro e w1 ⟨m, rfl, hm, hh, rfl⟩)
  go_ret
  exact ⟨m, rfl, hm, hh, rfl⟩
abbrev OwnB (w : World) (base : Nat) (v : Value) (X : List Int) : Prop := Own .u8 5 w base v X
section
variable {w : World} {base g n c : Nat} {X : List Int}
theorem OwnB.cell (h : OwnB w base (.slice (some ⟨g, 0, none⟩) n c) X) (j : Nat) (hj : j < X.length) : w.cell? ⟨g, j, none⟩ = some (.int .u8 (X.getD j 0)) := by
  have hn : n = X.length := (Own.sl h).len_.1
  subst hn
  have := World.ownsRow.cellAt h j (by omega)
  rw [this, List.getElem?_map, List.getD_eq_getElem?_getD, List.getElem?_eq_getElem hj]; rfl
theorem OwnB.frozen (h : OwnB w base (.slice (some ⟨g, 0, none⟩) n c) X) (j : Nat) : w.frozen? ⟨g, j, none⟩ = false := by
  have hn : n = X.length := (Own.sl h).len_.1
  subst hn
  exact World.ownsRow.frozenAt h j
theorem OwnB.set_ (h : OwnB w base (.slice (some ⟨g, 0, none⟩) n c) X) (j : Nat) (z : Int) : OwnB (w.setCell ⟨g, j, none⟩ (.int .u8 z)) base (.slice (some ⟨g, 0, none⟩) n c) (X.set j z) := by
  have hn : n = X.length := (Own.sl h).len_.1
  subst hn
  have := (World.ownsRow.stored h j (.int .u8 z)).1
  unfold OwnB Own
  rw [List.map_set, List.length_set]
  exact this
theorem OwnB.take {A : Option Addr} {n c m : Nat} (h : OwnB w base (.slice A n c) X) (hm : m ≤ n) (hA : A ≠ none) : OwnB w base (.slice A m c) (X.take m) := by
  have hn : n = X.length := (Own.sl h).len_.1
  have hl : (X.take m).length = m := by rw [List.length_take, ← hn]; exact Nat.min_eq_left hm
  unfold OwnB Own
  rw [hl]
  refine ⟨by rw [List.length_map, hl]; omega, ?_⟩
  rcases h.2 with ⟨e, _⟩ | ⟨g, cap, cur, e, hg, hgg, hc, hmx, hsz, htk⟩
  · injection e with e1; exact absurd e1 hA
  · injection e with e1 e2 e3
    subst e1 e3
    refine .inr ⟨g, _, cur, rfl, hg, hgg, by omega, hmx, hsz, ?_⟩
    rw [List.map_take, ← htk, List.take_take, Nat.mul_one, Nat.mul_one, Nat.min_eq_left (by omega)]
end
/-- turned round in place -/
def RetRv (w : World) (base g n c : Nat) (X : List Int) (e : Ending) (w' : World) : Prop := e = .returned (.tuple #[]) ∧ w.grownBy w' (some g) ∧ OwnB w' base (.slice (some ⟨g, 0, none⟩) n c) X.reverse
theorem Reverse_c (base g n c : Nat) (X : List Int) (w : World) (hO : OwnB w base (.slice (some ⟨g, 0, none⟩) n c) X) (hl : X.length ≤ 1000000000) :
    Calls Tryd.prog 61 #[.slice (some ⟨g, 0, none⟩) n c] w (RetRv w base g n c X) := by
  have hn : n = X.length := (Own.sl hO).len_.1
  have hc := (Own.sl hO).len_.2
  rw [← hn] at hl hc
  have HN := Lib.hid hn
  have HO := Lib.hid hO
  clear hn hO
  go_enter Tryd.func61, Tryd.ntmps61
  go_wp2
  go_loopw [2, 3] (fun iv jv wr => ∃ (i : Nat) (M : List Int), iv = .int .i64 i ∧ 2 * i ≤ n + 1 ∧ jv = .int .i64 ((n : Int) - 1 - i) ∧ Hid (RvI X i M) ∧ Hid (OwnB wr base (.slice (some ⟨g, 0, none⟩) n c) M) ∧ Hid (w.grownBy wr (some g))) (fun iv _ _ => n - (intOf iv).toNat)
  case atStart => exact ⟨0, X, rfl, by omega, by simp, RvI.start X, HO, World.grownBy.refl _ _⟩
  case round =>
    obtain ⟨i, M, rfl, hi, rfl, hI, hO, hG⟩ := hrel
    by_cases hin : 2 * i + 1 < n
    · obtain ⟨j, hj⟩ : ∃ j, n - 1 - i = j := ⟨_, rfl⟩
      have hjn : (n : Int) - 1 - i = j := by omega
      have hML := hI.out.len
      have ci := OwnB.cell hO.out i (by rw [hML, ← HN.out]; omega)
      have cj := OwnB.cell hO.out j (by rw [hML, ← HN.out]; omega)
      have fi := OwnB.frozen hO.out i
      have fj := OwnB.frozen hO.out j
      have hst := hI.out.step (by rw [← HN.out]; exact hin)
      rw [← HN.out, hj] at hst
      obtain ⟨x, hx⟩ : ∃ x, M.getD i 0 = x := ⟨_, rfl⟩
      obtain ⟨y, hy⟩ : ∃ y, M.getD j 0 = y := ⟨_, rfl⟩
      rw [hx, hy] at hst
      rw [hx] at ci
      rw [hy] at cj
      have hij : i ≠ j := by omega
      have hlt : (i : Int) < j := by omega
      have i1 : (i : Int) < n := by omega
      have j1 : (j : Int) < n := by omega
      have HST := Lib.hid hst
      have HW : Hid (OwnB ((wr.setCell ⟨g, i, none⟩ (.int .u8 y)).setCell ⟨g, j, none⟩ (.int .u8 x)) base (.slice (some ⟨g, 0, none⟩) n c) ((M.set i y).set j x)) := OwnB.set_ (OwnB.set_ hO.out i y) j x
      have HG : Hid (w.grownBy ((wr.setCell ⟨g, i, none⟩ (.int .u8 y)).setCell ⟨g, j, none⟩ (.int .u8 x)) (some g)) := grownBy_set (grownBy_set hG.out i _) j _
      have hj2 : (j : Int) - 1 = (n : Int) - 1 - ((i : Int) + 1) := by omega
      have HJ := Lib.hid hj2
      clear hML hst hx hy hj hj2
      simp only [hjn]
      clear hjn
      go_wp2
      go_region
      go_wp2
      exact ⟨⟨i + 1, _, by simp, by omega, congrArg (Value.int .i64) (by have := HJ.out; omega), HST.out, Own.drew HW.out, ⟨HG.out.os, HG.out.tape, HG.out.output, HG.out.size, HG.out.block⟩⟩, by simp only [intOf]; omega⟩
    · have hD := hI.out.done (by rw [← HN.out]; omega)
      have hlt : ¬ (i : Int) < (n : Int) - 1 - i := by omega
      subst hD
      go_wp2
      go_end0
      exact ⟨rfl, hG.out, hO.out⟩
end NC
end Go.Proofs.YtnpeokgjfnobmaaDoor

/-
  Package nat: Text.
-/
namespace Go.Proofs.YtnpeokgjfnobmaaDoor
set_option linter.unusedVariables false
set_option linter.unusedSimpArgs false
open Go.RowKit
set_option linter.unusedVariables false
namespace NC
open L
open Z (Nz Tz cmpv)
theorem el_u8 : Elem 84 5 .u8 := Elem.of Tryd.underlying84 (b := 1) (by kernel_rfl) (by decide)
theorem digit_eq (x t : Nat) (ht : t < 9) : x % 1000000000 / 10 ^ t % 10 = x / 10 ^ t % 10 := by
  rcases (by omega : t = 0 ∨ t = 1 ∨ t = 2 ∨ t = 3 ∨ t = 4 ∨ t = 5 ∨ t = 6 ∨ t = 7 ∨ t = 8) with rfl | rfl | rfl | rfl | rfl | rfl | rfl | rfl | rfl <;> simp only [Nat.pow_zero, Nat.reducePow] <;> omega
theorem Head.kept {w w' : World} {B g c : Nat} {l : List Int} {row : Option Nat} (h : Head w B g c l) (hg : w.grownBy w' row) (hr : row ≠ some g) : Head w' B g c l := by
  obtain ⟨h1, h2, cs, hb, hw⟩ := h
  exact ⟨h1, h2, cs, Blk.grown hb hg (fun e => hr e.symm), hw⟩
theorem Head.alloc {w : World} {B g c : Nat} {l : List Int} (h : Head w B g c l) (o : Obj) : Head (w.alloc o) B g c l := by
  obtain ⟨h1, h2, cs, hb, hw⟩ := h
  exact ⟨h1, h2, cs, hb.alloc o, hw⟩
theorem Head.lt {w : World} {B g c : Nat} {l : List Int} (h : Head w B g c l) : g < w.heap.size := by
  obtain ⟨_, _, cs, hb, _⟩ := h
  exact hb.lt
/-- a rest of limbs that is being divided -/
structure RM (w : World) (B g n c : Nat) (z : Nat) (M : List Int) : Prop where
  h : Head w B g c M
  n : M.length = n
  l : Lim M
  nz : Nz M
  eq : lv M = z
theorem dec_bound {l : List Int} (Ll : Lim l) (hl : l.length ≤ 400) {Zn : Nat} (hZ : lv l = Zn) : ∃ N, N ≤ 4000 ∧ Zn < 10 ^ N := by
  refine ⟨10 * l.length, by omega, ?_⟩
  have a1 := lv_lt Ll
  rw [hZ] at a1
  have a3 : ((Zn : Nat) : Int) < ((4294967296 ^ l.length : Nat) : Int) := by rw [Int.natCast_pow]; exact a1
  have a2 : Zn < 4294967296 ^ l.length := Int.ofNat_lt.1 a3
  rw [Nat.pow_mul]
  exact Nat.lt_of_lt_of_le a2 (Nat.pow_le_pow_left (by decide) _)
theorem Head.take {w : World} {B g c m : Nat} {l : List Int} (h : Head w B g c l) (hm : m ≤ l.length) : Head w B g c (l.take m) := by
  obtain ⟨h1, h2, cs, hb, hw⟩ := h
  refine ⟨h1, by rw [List.length_take]; omega, cs, hb, fun j hj => ?_⟩
  rw [List.length_take] at hj
  rw [hw j (by omega), List.getD_eq_getElem?_getD, List.getD_eq_getElem?_getD, List.getElem?_take, if_pos (by omega)]
/-- a rest divided by 10^9: what is left over, and the rest -/
def RetDb (w : World) (B g n c z : Nat) (e : Ending) (w' : World) : Prop :=
  ∃ M, e = .returned (.int .u32 ((z % 1000000000 : Nat) : Int)) ∧ w.grownBy w' (some g) ∧ Hid (Head w' B g c M ∧ M.length = n ∧ Lim M ∧ lv M = (z / 1000000000 : Nat))
theorem divideBy_rm {w : World} {B g n c z : Nat} {M : List Int} (h : RM w B g n c z M) (hn : n ≤ 400) : Calls Tryd.prog 59 #[.slice (some ⟨g, 0, none⟩) n c, .int .u32 1000000000] w (RetDb w B g n c z) := by
  obtain ⟨h1, h2, cs, hb, hw⟩ := h.h
  have hn2 := h.n
  refine (divideBy_c g 0 n c cs M 1000000000 w hb hw h.n h.l (by omega) (by omega) (by omega)).mono fun e w' h' => ?_
  obtain ⟨M', k, rfl, hE, hL, k0, k1, hv⟩ := h'
  have hv := hv.out
  rw [h.eq] at hv
  obtain ⟨cs', hb', hs', hM', _⟩ := hE.blk
  refine ⟨M', ?_, hE.grown, ⟨h1, by rw [hE.len]; omega, cs', hb', hM'⟩, hE.len, hL, ?_⟩
  · rw [hv.2]; rfl
  · rw [hv.1]; rfl
/-- the text of a number, and an error -/
def RetTx (w : World) (er : Int) (s : ByteArray) (e : Ending) (w' : World) : Prop := e = .returned (.tuple #[.string s, .int .i64 er]) ∧ Below w.heap.size w w'
set_option maxRecDepth 100000 in
set_option maxHeartbeats 4000000 in
theorem Text_c (v : Value) (l : List Int) (w : World) (hs : Sl .u32 w v l) (hl : l.length ≤ 9223372036854775807) (Ll : Lim l) :
    Calls Tryd.prog 13 #[v] w (RetTx w (chk l) (if chk l = 0 then bs (dec (lv l).toNat) else bs [])) := by
  have C := Lib.hid (Check_c v l w hs hl)
  obtain ⟨A, c, rfl, hc⟩ := hs.form
  obtain ⟨r, hr⟩ : ∃ r, r = chk l := ⟨_, rfl⟩
  rw [← hr] at C ⊢
  by_cases h : r = 0
  · have h1 := chk_ok.1 (hr.symm.trans h)
    rw [if_pos h]
    by_cases hne : l = []
    · subst hne
      have hd : bs (dec (lv []).toNat) = ⟨#[48]⟩ := by
        rw [show (lv []).toNat = 0 from rfl, dec_small (by decide)]; rfl
      rw [hd]
      clear hs hl Ll hr h1 hd
      subst h
      simp only [List.length_nil] at C hc ⊢
      go_enter Tryd.func13, Tryd.ntmps13
      go_wp2_with (first | (go_at_call 51; (with_reducible refine (C.out).mono ?_); rintro e w' ⟨rfl, rfl⟩))
      go_ret2
      exact ⟨rfl, Below.refl _ _⟩
    · have CL := Lib.hid (clone_c _ l w hs (by omega))
      obtain ⟨Zn, hZ⟩ : ∃ Zn : Nat, lv l = Zn := ⟨(lv l).toNat, by have := lv_nonneg Ll; omega⟩
      have hZ0 : 0 < Zn := by
        have a1 := lv_ge Ll h1.2 hne
        have a2 := pow_pos (l.length - 1)
        omega
      obtain ⟨N, hN4, hZb⟩ := dec_bound Ll h1.1 hZ
      have R0 : Hid (∀ w2 g c, Head w2 w.heap.size g c l → RM w2 w.heap.size g l.length c (Zn / 10 ^ (9 * 0)) l) := fun w2 g c h => ⟨h, rfl, Ll, h1.2, by rw [hZ]; simp⟩
      have e0 : ((l.length : Int) == 0) = false := by have := List.length_pos_iff.2 hne; simp; omega
      have hx4 : l.length ≤ 400 := h1.1
      rw [hZ, Int.toNat_natCast]
      obtain ⟨x, ex⟩ : ∃ x, l.length = x := ⟨_, rfl⟩
      have HRH := Lib.hid (show ∀ e w', RetH w l e w' → ∃ g c, e = .returned (.slice (some ⟨g, 0, none⟩) l.length c) ∧ Hid (Head w' w.heap.size g c l) ∧ Below w.heap.size w w' from fun e w' h => h)
      rw [ex] at C hc e0 hx4 CL R0 HRH ⊢
      have HZ0 := Lib.hid hZ0
      have HZb := Lib.hid hZb
      clear hs hl Ll hr h1 hne hZ hZ0 hZb ex
      subst h
      go_enter Tryd.func13, Tryd.ntmps13
      go_wp2_with (first
        | (go_at_call 51; (with_reducible refine (C.out).mono ?_); rintro e w' ⟨rfl, rfl⟩)
        | (go_at_call 57; (with_reducible refine (CL.out).mono ?_); intro e w2 hh2; obtain ⟨g, c2, rfl, hH2, hB2⟩ := HRH.out e w2 hh2; clear hh2))
      go_loopw [5, 6] (fun s5 s6 wr => ∃ (k : Nat) (Ad : Option Addr) (nd cd : Nat) (g nr cr : Nat) (M : List Int), s5 = .slice Ad nd cd ∧ s6 = .slice (some ⟨g, 0, none⟩) nr cr ∧ nd = 9 * k ∧ nd ≤ 5000 ∧ nr ≤ 400 ∧
        Hid (OwnB wr w.heap.size (.slice Ad nd cd) (dlr Zn (9 * k))) ∧ Hid (RM wr w.heap.size g nr cr (Zn / 10 ^ (9 * k)) M) ∧ Hid ((Value.slice Ad nd cd).ownBlock ≠ some g) ∧ Hid (Below w.heap.size w wr)) (fun s5 _ _ => match s5 with | .slice _ n _ => 10000 - n | _ => 0)
      case atStart => exact ⟨0, none, 0, 0, g, x, c2, l, rfl, rfl, rfl, by omega, hx4, Own.nil _ _ _ _, R0.out _ _ _ hH2.out, (by intro h; cases h), hB2⟩
      case round =>
        obtain ⟨k, Ad, nd, cd, g, nr, cr, M, rfl, rfl, hnd, hnd5, hnr, hD, hR, hSep, hB⟩ := hrel
        subst hnd
        by_cases hn0 : 0 < nr
        · have DB := Lib.hid (divideBy_rm hR.out hnr)
          have hpos : 0 < Zn / 10 ^ (9 * k) := by
            have hne : M ≠ [] := by intro e; have := hR.out.n; rw [e] at this; simp at this; omega
            have a1 := lv_ge hR.out.l hR.out.nz hne
            have a2 := pow_pos (M.length - 1)
            have a3 := hR.out.eq
            omega
          have hk9 : 9 * k < N := by
            have a1 : 10 ^ (9 * k) ≤ Zn := by
              rcases Nat.lt_or_ge Zn (10 ^ (9 * k)) with h | h
              · rw [Nat.div_eq_of_lt h] at hpos; omega
              · exact h
            have a2 := Nat.lt_of_le_of_lt a1 HZb.out
            exact (Nat.pow_lt_pow_iff_right (by decide : 1 < 10)).1 a2
          have HDIG : Hid (∀ t, t < 9 → dlr Zn (9 * k + t) ++ [(48 + ((Zn / 10 ^ (9 * k) % 1000000000 / 10 ^ t : Nat) : Int) % 10)] = dlr Zn (9 * k + (t + 1))) := fun t ht => by
            rw [show 9 * k + (t + 1) = 9 * k + t + 1 by omega, dlr_succ]
            congr 2
            have : Zn / 10 ^ (9 * k + t) % 10 = Zn / 10 ^ (9 * k) % 1000000000 / 10 ^ t % 10 := by
              rw [digit_eq _ _ ht, Nat.div_div_eq_div_mul, ← Nat.pow_add]
            rw [this]; rfl
          have HG : Hid (∀ t, Zn / 10 ^ (9 * k) % 1000000000 / 10 ^ t / 10 = Zn / 10 ^ (9 * k) % 1000000000 / 10 ^ (t + 1)) := fun t => by rw [Nat.div_div_eq_div_mul, Nat.pow_succ]
          have HNX : Hid (Zn / 10 ^ (9 * k) / 1000000000 = Zn / 10 ^ (9 * (k + 1))) := by
            show _ = _
            rw [Nat.div_div_eq_div_mul, show 9 * (k + 1) = 9 * k + 9 by omega, Nat.pow_add]
          have hGlt : Zn / 10 ^ (9 * k) % 1000000000 < 1000000000 := Nat.mod_lt _ (by decide)
          generalize Zn / 10 ^ (9 * k) = Zk at *
          obtain ⟨G, hG⟩ : ∃ G, Zk % 1000000000 = G := ⟨_, rfl⟩
          have HDB : Hid (∀ e w', RetDb wr w.heap.size g nr cr Zk e w' → ∃ M, e = .returned (.int .u32 (G : Int)) ∧ wr.grownBy w' (some g) ∧ Hid (Head w' w.heap.size g cr M ∧ M.length = nr ∧ Lim M ∧ lv M = (Zk / 1000000000 : Nat))) := fun e w' h => by rw [← hG]; exact h
          rw [hG] at HDIG HG hGlt
          clear hG hR hpos
          go_wp2_with (go_at_call 59; (with_reducible refine (DB.out).mono ?_); intro e w1 hh; obtain ⟨M1, rfl, hg1, hM1⟩ := HDB.out e w1 hh; clear hh)
          have hD1 : OwnB w1 w.heap.size (.slice Ad (9 * k) cd) (dlr Zn (9 * k)) := World.ownsRow.kept hD.out hg1 (by
            cases h : (Value.slice Ad (9 * k) cd).ownBlock with
            | none => exact .inl rfl
            | some g' => exact .inr fun e => hSep.out (by rw [h, e]))
          have hB1 := hB.out.grown hg1 hB.out.size fun k hk => by injection hk with hk; have := hM1.out.1.1; omega
          have hD1 := Lib.hid hD1
          have hB1 := Lib.hid hB1
          go_loopw [25, 5, 7] (fun s25 s5 s7 wx => ∃ (t : Nat) (Ad : Option Addr) (nd cd : Nat), s25 = .int .i64 t ∧ t ≤ 9 ∧ s5 = .slice Ad nd cd ∧ nd = 9 * k + t ∧ s7 = .int .u32 ((G / 10 ^ t : Nat) : Int) ∧ Hid (OwnB wx w.heap.size (.slice Ad nd cd) (dlr Zn (9 * k + t))) ∧
            Hid (Head wx w.heap.size g cr M1) ∧ Hid ((Value.slice Ad nd cd).ownBlock ≠ some g) ∧ Hid (Below w.heap.size w wx)) (fun s25 _ _ _ => 9 - (intOf s25).toNat)
          case atStart => exact ⟨0, Ad, _, cd, rfl, by omega, rfl, by omega, by simp, hD1.out, hM1.out.1, hSep.out, hB1.out⟩
          case round =>
            obtain ⟨t, Ad, nd, cd, rfl, ht, rfl, hnd, rfl, hD, hH, hSep, hB⟩ := hrel
            subst hnd
            by_cases ht9 : t < 9
            · obtain ⟨gg, hgg⟩ : ∃ gg, G / 10 ^ t = gg := ⟨_, rfl⟩
              have hgb : gg ≤ 1000000000 := by rw [← hgg]; exact Nat.le_trans (Nat.div_le_self _ _) (Nat.le_of_lt hGlt)
              have hdig := HDIG.out t ht9
              have hgn := HG.out t
              rw [hgg] at hdig hgn ⊢
              have hdig := Lib.hid hdig
              have hgn := Lib.hid hgn
              have wb := hB.out.size
              have hlen := dlr_len Zn (9 * k + t)
              have HL := Lib.hid hlen
              have gm0 : 0 ≤ (gg : Int) % 10 := by omega
              have gm1 : (gg : Int) % 10 < 10 := by omega
              clear hgg hlen
              go_wp2_with (at_builtin; refine app1 el_u8 rfl _ _ rfl rfl hD.out (48 + (gg : Int) % 10) rfl (by have := HL.out; omega) wb ?_; intro A2 k2 c2 w2 hk2 hown2 hg2 hat2)
              exact ⟨⟨t + 1, A2, k2, c2, by simp, by omega, rfl, by have := hk2.out; have := HL.out; omega, congrArg (Value.int .u32) (by rw [← hgn.out]; rfl), by rw [← hdig.out]; exact hown2, hH.out.kept hg2 hSep.out, (by
                rcases hat2 with h | h
                · rw [h]; exact hSep.out
                · rw [h]; intro e; injection e with e; have := hH.out.lt; omega), hB.out.grown hg2 wb fun k hk => (Own.lt hD.out k hk).1⟩, by simp only [intOf]; omega⟩
            · obtain rfl : t = 9 := by omega
              have TS := Head.sl hH.out
              rw [hM1.out.2.1] at TS
              have TR := Lib.hid (trim_c (some ⟨g, 0, none⟩) nr cr M1 wr TS (by rw [hM1.out.2.1]; omega))
              clear TS
              go_wp2_with (first | (go_at_call 58; (with_reducible refine (TR.out).mono ?_); rintro e w5 ⟨m5, rfl, hm5, hz5, hv5, rfl⟩))
              have hm5' : m5 ≤ nr := by rw [← hM1.out.2.1]; exact hm5
              refine ⟨⟨k + 1, Ad, _, cd, g, m5, cr, M1.take m5, rfl, rfl, by omega, by omega, by omega, hD.out, ⟨hH.out.take hm5, by rw [List.length_take]; omega, hM1.out.2.2.1.take m5, hz5, ?_⟩, hSep.out, hB.out⟩, by simp; omega⟩
              rw [hv5, hM1.out.2.2.2, HNX.out]
        · obtain rfl : nr = 0 := by omega
          have hM0 : M = [] := List.eq_nil_of_length_eq_zero hR.out.n
          have hz : Zn / 10 ^ (9 * k) = 0 := by
            have := hR.out.eq
            rw [hM0] at this
            have e : (0 : Int) = ((Zn / 10 ^ (9 * k) : Nat) : Int) := this
            omega
          have hlt : Zn < 10 ^ (9 * k) := by
            rcases Nat.lt_or_ge Zn (10 ^ (9 * k)) with h | h
            · exact h
            · have := (Nat.le_div_iff_mul_le (Nat.pow_pos (by decide : 0 < 10))).2 (show 1 * 10 ^ (9 * k) ≤ Zn by omega)
              omega
          have hk0 : 0 < k := by
            rcases Nat.eq_zero_or_pos k with h | h
            · subst h; simp at hlt; have := HZ0.out; omega
            · exact h
          have hne : dlr Zn (9 * k) ≠ [] := by intro e; have := dlr_len Zn (9 * k); rw [e] at this; simp at this; omega
          have hdl := dlr_len Zn (9 * k)
          have TR := Lib.hid (TrimRight_c Ad (9 * k) cd (dlr Zn (9 * k)) wr (Own.sl hD.out) (by omega) hne)
          have SD : Hid (∀ m, m ≤ (dlr Zn (9 * k)).length → ((∀ d ∈ (dlr Zn (9 * k)).drop m, d = 48) ∧ (m = 0 ∨ (dlr Zn (9 * k)).getD (m - 1) 0 ≠ 48)) → (dlr Zn (9 * k)).take m = rdec Zn) := fun m h1 h2 => strip_dec HZ0.out hlt (by omega) h2.1 h2.2
          obtain ⟨gd, rfl⟩ : ∃ gd, Ad = some ⟨gd, 0, none⟩ := by
            rcases hD.out.2 with ⟨_, h0⟩ | ⟨gd, cap, cur, e, _⟩
            · omega
            · injection e with e1; exact ⟨gd, e1⟩
          have HDL := Lib.hid hdl
          have hm9 : 9 * k ≤ 5000 := hnd5
          have gdB := (Own.lt hD.out gd rfl).1
          have RV : Hid (∀ m, m ≤ 9 * k → (dlr Zn (9 * k)).take m = rdec Zn → Calls Tryd.prog 61 #[.slice (some ⟨gd, 0, none⟩) m cd] wr (RetRv wr w.heap.size gd m cd (rdec Zn))) := fun m h1 h2 => by
            have ho := OwnB.take hD.out h1 (by intro h; cases h)
            rw [h2] at ho
            exact Reverse_c w.heap.size gd m cd (rdec Zn) wr ho (by rw [← h2, List.length_take]; omega)
          have CV : Hid (∀ W m, OwnB W w.heap.size (.slice (some ⟨gd, 0, none⟩) m cd) (rdec Zn).reverse → (convert 84 9 (.slice (some ⟨gd, 0, none⟩) m cd)).run Tryd.prog W = .ok (.string (bs (dec Zn))) W) := fun W m h => by
            have hs := Own.sl h
            have hm := hs.len_.1
            rw [rdec_rev, List.length_map] at hm
            rw [hm]
            refine run_convert_bytes_back W 84 9 5 ⟨gd, 0, none⟩ cd (dec Zn) Tryd.underlying84 Tryd.underlying5 Tryd.underlying9 fun j hj => ?_
            have := OwnB.cell h j (by rw [rdec_rev, List.length_map]; exact hj)
            rw [rdec_rev] at this
            rw [show (⟨gd, 0, none⟩ : Addr).add j = ⟨gd, j, none⟩ by unfold Addr.add; split <;> simp_all]
            rw [this, List.getD_eq_getElem?_getD, List.getElem?_map, List.getElem?_eq_getElem hj]; rfl
          clear hM0 hz hlt hk0 hne hdl hn0 hR
          go_wp2_with (first
            | (go_at_call 60; (with_reducible refine (TR.out).mono ?_); rintro e w3 ⟨m3, rfl, hm3, hh3, rfl⟩; have hE3 := Lib.hid (SD.out m3 hm3 hh3.out); have hm3' : m3 ≤ 9 * k := (by have := HDL.out; omega); have RV3 := Lib.hid (RV.out m3 hm3' hE3.out))
            | (go_at_call 61; (with_reducible refine (RV3.out).mono ?_); rintro e w4 ⟨rfl, hg4, hO4⟩; have hcv := CV.out w4 m3 hO4))
          go_ret2
          exact ⟨rfl, hB.out.grown hg4 hB.out.size fun k hk => by injection hk with hk; omega⟩
  · have e1 : (r != 0) = true := by simp [h]
    rw [if_neg h]
    clear hs hl Ll hr h
    go_enter Tryd.func13, Tryd.ntmps13
    go_wp2_with (first | (go_at_call 51; (with_reducible refine (C.out).mono ?_); rintro e w' ⟨rfl, rfl⟩))
    go_ret2
    exact ⟨rfl, Below.refl _ _⟩
end NC
end Go.Proofs.YtnpeokgjfnobmaaDoor

