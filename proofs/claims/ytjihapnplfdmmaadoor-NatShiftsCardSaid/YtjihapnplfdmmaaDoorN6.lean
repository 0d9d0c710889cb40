/-
  Package nat: Sub, Mul.
-/
import Derived.Test.YtjihapnplfdmmaaDoorNRow
namespace Go.Proofs.YtjihapnplfdmmaaDoor
open Go.RowKit
set_option linter.unusedVariables false
namespace NC
open L
open Z (Nz Tz cmpv)
def RetRow0 (w : World) (g n c : Nat) (z : Int) (e : Ending) (w' : World) : Prop := ∃ M, e = .returned (.tuple #[]) ∧ w.grownBy w' (some g) ∧ Hid (Sl .u32 w' (.slice (some ⟨g, 0, none⟩) n c) M ∧ M.length = n ∧ Lim M ∧ lv M = z)
theorem subFrom_head (B g c : Nat) (l m : List Int) (vb : Value) (w : World) (hH : Head w B g c l) (hY : SlA .u32 w vb m g) (Ll : Lim l) (Lm : Lim m) (nm : Nz m) (hle : lv m ≤ lv l) (hN : l.length ≤ 1000000000) :
    Calls Tryd.prog 54 #[.slice (some ⟨g, 0, none⟩) l.length c, vb] w (RetRow0 w g l.length c (lv l - lv m)) := by
  obtain ⟨hB, hc, cs, hb, hw⟩ := hH
  have hlen : m.length ≤ l.length := by
    rcases Nat.lt_or_ge l.length m.length with h | h
    · have := lv_len Ll Lm nm h; omega
    · exact h
  refine (subFrom_c g 0 l.length c cs l m vb w hb hw rfl hY Ll Lm hlen hN hc hle).mono fun e w' h => ?_
  obtain ⟨M, rfl, hE, hL, hv⟩ := h
  have hS := hE.sl c hc
  rw [hE.len] at hS
  exact ⟨M, rfl, hE.grown, hS, hE.len, hL, hv.out⟩
theorem Sub_c (u v : Value) (l m : List Int) (w : World) (hs : Sl .u32 w u l) (ht : Sl .u32 w v m) (hl : l.length ≤ 9223372036854775807) (hm : m.length ≤ 9223372036854775807) (Ll : Lim l) (Lm : Lim m) :
    Calls Tryd.prog 31 #[u, v] w (RetL w (errSub l m) (if errSub l m = 0 then lv l - lv m else 0)) := by
  have C := Lib.hid (checkBoth_c u v l m w hs ht hl hm)
  by_cases h : chk2 l m = 0
  · have h1 := (chk2_ok.1 h)
    have h2 := chk_ok.1 h1.1
    have h3 := chk_ok.1 h1.2
    have P := Lib.hid (compare_c u v l m w hs ht Ll Lm h2.2 h3.2 (by omega) (by omega))
    have HC := Lib.hid (clone_c u l)
    obtain ⟨A, c, rfl, hc⟩ := hs.form
    obtain ⟨B, d, rfl, hd⟩ := ht.form
    rw [h] at C
    by_cases hlt : lv l < lv m
    · have he : errSub l m = 1 := by unfold errSub; rw [if_pos h, if_pos hlt]
      rw [he, if_neg (by decide)]
      rw [Z.cmpv_lt hlt] at P
      clear hs ht hl hm Ll Lm h h1 h2 h3 hlt he hc hd HC
      go_enter Tryd.func31, Tryd.ntmps31
      go_wp2_with (first | (go_at_call 49; (with_reducible refine (C.out).mono ?_); rintro e w' ⟨rfl, rfl⟩) | (go_at_call 52; (with_reducible refine (P.out).mono ?_); rintro e w2 ⟨rfl, k, rfl⟩))
      go_ret2
      exact RetL.err ⟨rfl, rfl, rfl, Nat.le_refl _, fun _ _ => rfl⟩
    · have he : errSub l m = 0 := by unfold errSub; rw [if_pos h, if_neg hlt]
      rw [he, if_pos rfl]
      have q0 := Z.cmpv_ge0 hlt
      generalize cmpv (lv l) (lv m) = q at P q0
      have e1 : decide (q < 0) = false := by simp; omega
      have HS := Lib.hid hs
      have HT := Lib.hid ht
      have LL := Lib.hid Ll
      have LM := Lib.hid Lm
      have HLE : Hid (lv m ≤ lv l) := Int.not_lt.1 hlt
      have H2 := Lib.hid h2
      have H3 := Lib.hid h3
      obtain ⟨x, ex⟩ : ∃ x, x = l.length := ⟨_, rfl⟩
      obtain ⟨y, ey⟩ : ∃ y, y = m.length := ⟨_, rfl⟩
      rw [← ex] at hc C HS P HC ⊢
      rw [← ey] at hd C HT P ⊢
      have EX := Lib.hid ex
      clear hs ht hl hm Ll Lm h h1 h2 h3 hlt he q0 ex ey
      go_enter Tryd.func31, Tryd.ntmps31
      go_wp2_with (first | (go_at_call 49; (with_reducible refine (C.out).mono ?_); rintro e w' ⟨rfl, rfl⟩) | (go_at_call 52; (with_reducible refine (P.out).mono ?_); rintro e w2 ⟨rfl, k, rfl⟩) | (go_at_call 38; (with_reducible refine (HC.out (w.drewN k) (HS.out.drewN k) (by have := H2.out.1; have := EX.out; omega)).mono ?_); rintro e w3 ⟨g, c3, rfl, hH3, hB3⟩ ; have hg3 : w.heap.size ≤ g := hH3.out.1 ; have HT3 := SlA.old (HT.out.drewN k) hB3 hg3) | (go_at_call 54; (with_reducible refine (subFrom_head _ g c3 l m _ w3 hH3.out HT3 LL.out LM.out H3.out.2 HLE.out (by have := H2.out.1; omega)).mono ?_); rintro e w4 ⟨M, rfl, hg4, h4⟩) | (go_at_call 39; (with_reducible refine (trim_c _ _ _ M _ h4.out.1 (by have := h4.out.2.1; have := H2.out.1; omega)).mono ?_); rintro e w5 ⟨m5, rfl, hm5, hz5, hv5, rfl⟩))
      go_ret2
      have hB0 : Below w.heap.size w w3 := ⟨hB3.os, hB3.tape, hB3.output, hB3.size, hB3.block⟩
      exact ⟨_, _, _, rfl, trimmed (L := M) (by rw [h4.out.2.1]; exact h4.out.1) hm5 h4.out.2.2.1 hz5 hv5 h4.out.2.2.2, hB0.grown hg4 hB0.size fun k hk => by injection hk with hk; have := hH3.out.1; exact hk ▸ this⟩
  · have he : errSub l m = chk2 l m := by unfold errSub; rw [if_neg h]
    obtain ⟨r, hr⟩ : ∃ r, r = chk2 l m := ⟨_, rfl⟩
    rw [he]
    rw [← hr] at C h ⊢
    have e1 : (r != 0) = true := by simp [h]
    rw [if_neg h]
    clear hs ht hl hm Ll Lm hr h he
    go_enter Tryd.func31, Tryd.ntmps31
    go_wp2_with (first | (go_at_call 49; (with_reducible refine (C.out).mono ?_); rintro e w' ⟨rfl, rfl⟩))
    go_ret2
    exact RetL.err (Below.refl _ _)
theorem Mul_c (u v : Value) (l m : List Int) (w : World) (hs : Sl .u32 w u l) (ht : Sl .u32 w v m) (hl : l.length ≤ 9223372036854775807) (hm : m.length ≤ 9223372036854775807) (Ll : Lim l) (Lm : Lim m) :
    Calls Tryd.prog 28 #[u, v] w (RetL w (chk2 l m) (if chk2 l m = 0 then lv l * lv m else 0)) := by
  have C := Lib.hid (checkBoth_c u v l m w hs ht hl hm)
  obtain ⟨r, hr⟩ : ∃ r, r = chk2 l m := ⟨_, rfl⟩
  rw [← hr] at C ⊢
  by_cases h : r = 0
  · have h1 := (chk2_ok.1 (hr.symm.trans h))
    have h2 := chk_ok.1 h1.1
    have h3 := chk_ok.1 h1.2
    rw [if_pos h]
    obtain ⟨A, c, rfl, hc⟩ := hs.form
    obtain ⟨B, d, rfl, hd⟩ := ht.form
    have HS := Lib.hid hs
    have HT := Lib.hid ht
    have LL := Lib.hid Ll
    have LM := Lib.hid Lm
    obtain ⟨x, ex⟩ : ∃ x, x = l.length := ⟨_, rfl⟩
    obtain ⟨y, ey⟩ : ∃ y, y = m.length := ⟨_, rfl⟩
    rw [← ex] at hc h2 C HS ⊢
    rw [← ey] at hd h3 C HT ⊢
    have x4 : x ≤ 400 := h2.1
    have y4 : y ≤ 400 := h3.1
    have hmk := run_make_row' (P := Tryd.prog) 22 50 (.int .u32 0) 4 Tryd.underlying22 (by kernel_rfl) rfl .i64 .i64 (x + y) (by omega) (by omega)
    rw [show ((x + y : Nat) : Int) = (x : Int) + y by omega] at hmk
    have EX := Lib.hid ex
    have EY := Lib.hid ey
    clear hs ht hl hm Ll Lm hr h1 h2 h3 ex ey
    subst h
    go_enter Tryd.func28, Tryd.ntmps28
    go_wp2_with (first | (go_at_call 49; (with_reducible refine (C.out).mono ?_); rintro e w' ⟨rfl, rfl⟩))
    clear hmk
    go_loopw [24] (fun iv wr => ∃ (i : Nat) (P : List Int), iv = .int .i64 i ∧ i ≤ x ∧ Hid (MulN l m (x + y) i P) ∧ Hid (Row .u32 50 wr w.heap.size P) ∧ Hid (Below w.heap.size w wr)) (fun iv _ => x - (intOf iv).toNat)
    case atStart => exact ⟨0, _, rfl, by omega, MulN.start _ _ _, Row.new' _ _ _ _ rfl, (Below.refl _ _).alloc (Nat.le_refl _) _⟩
    case round =>
      obtain ⟨i, P, rfl, hi, hI, hR, hB⟩ := hrel
      by_cases hix : i < x
      · obtain ⟨adx, cx, exx, _, _, hcx⟩ := (HS.out.below hB.out).at_ i (by rw [← EX.out]; exact hix)
        injection exx with ex1 ex2 ex3
        subst ex1
        obtain ⟨q, hq⟩ : ∃ q, l.getD i 0 = q := ⟨_, rfl⟩
        have bq := LL.out.at_ i
        rw [hq] at hcx bq
        have HQ := Lib.hid hq
        clear hq ex2 ex3
        have hpl := hI.out.len
        have hfr := hR.out.frozen (i + y)
        have AT := addTimes_c w.heap.size i (x + y - i) (x + y - i) _ (P.drop i) m _ q wr hR.out (by have := Wn.part P i (P.length - i); rwa [List.take_of_length_le (by simp)] at this) (by simp [hpl]) (SlA.old HT.out hB.out (Nat.le_refl _)) (hI.out.lim.drop i) LM.out (by rw [← EY.out]; omega) (by omega) (Nat.le_refl _) bq
        have AT := Lib.hid AT
        have HPL := Lib.hid hpl
        clear hpl
        go_wp2_with (first | (go_at_call 51; (with_reducible refine (AT.out).mono ?_); rintro e w2 ⟨M, k, rfl, hE, hLM, k0, k1, hv⟩ ; have fr2 := hE.frozen (i + y) ; have cl2 := hE.cell y (by omega) ; have HE := Lib.hid hE ; have HLM := Lib.hid hLM ; clear hE hLM))
        have hR2 := HE.out.row (by rw [HPL.out]; omega)
        have hcut : (P.drop (i + (x + y - i))) = [] := List.drop_of_length_le (by rw [HPL.out]; omega)
        rw [hcut, List.append_nil] at hR2
        have hI2 := hI.out.step (by rw [← EY.out]; omega) HQ.out HE.out.len HLM.out k0 k1 hv.out.1 hv.out.2
        rw [← EY.out] at hI2
        exact ⟨⟨i + 1, _, by simp, by omega, hI2, hR2.set_ _ _, (HE.out.below hB.out (Nat.le_refl _) hB.out.size).setCell (Nat.le_refl _) _⟩, by simp only [intOf]; omega⟩
      · obtain rfl : x = i := by omega
        have hpl := hI.out.len
        have hS := hR.out.sl (x + y) (by omega)
        have T := trim_c (some ⟨w.heap.size, 0, none⟩) (x + y) (x + y) P wr (by rw [hpl] at hS; exact hS) (by omega)
        have T := Lib.hid T
        have HS2 := Lib.hid hS
        have hv : lv P = lv l * lv m := by rw [hI.out.val, List.take_of_length_le (by rw [← EX.out]; exact Nat.le_refl _)]
        have HV := Lib.hid hv
        clear hpl hS hv
        go_wp2_with (first | (go_at_call 39; (with_reducible refine (T.out).mono ?_); rintro e w5 ⟨m5, rfl, hm5, hz5, hv5, rfl⟩))
        go_ret2
        exact ⟨_, _, _, rfl, trimmed HS2.out hm5 hI.out.lim hz5 hv5 HV.out, hB.out⟩
  · have e1 : (r != 0) = true := by simp [h]
    rw [if_neg h]
    clear hs ht hl hm Ll Lm hr h
    go_enter Tryd.func28, Tryd.ntmps28
    go_wp2_with (first | (go_at_call 49; (with_reducible refine (C.out).mono ?_); rintro e w' ⟨rfl, rfl⟩))
    go_ret2
    exact RetL.err (Below.refl _ _)
end NC
end Go.Proofs.YtjihapnplfdmmaaDoor
