/-
  Package nat: divide, Div.
-/
import Derived.Test.YtjihapnplfdmmaaDoorN9
import Derived.Test.YtjihapnplfdmmaaDoorNDivQ
import Derived.Test.YtjihapnplfdmmaaDoorNLen
namespace Go.Proofs.YtjihapnplfdmmaaDoor
open Go.RowKit
set_option linter.unusedVariables false
namespace NC
open L
open Z (Nz Tz cmpv)
theorem Row.grown {w w' : World} {g g' : Nat} {P : List Int} (h : Row .u32 50 w g P) (hg : w.grownBy w' (some g')) (hne : g ≠ g') : Row .u32 50 w' g P := Blk.grown h hg (by simpa using hne)
theorem Row.below' {w w' : World} {g : Nat} {P : List Int} (h : Row .u32 50 w g P) (hb : Below w.heap.size w w') : Row .u32 50 w' g P := Blk.below h hb (Blk.lt h)
/-- a quotient and a remainder -/
def RetVV (w : World) (q r : Int) (e : Ending) (w' : World) : Prop := ∃ A n c A' n' c', e = .returned (.tuple #[.slice A n c, .slice A' n' c']) ∧ NV w' (.slice A n c) q ∧ NV w' (.slice A' n' c') r ∧ Below w.heap.size w w'
set_option maxRecDepth 100000 in
set_option maxHeartbeats 4000000 in
theorem divide_c (u v : Value) (a b : List Int) (w : World) (hs : Sl .u32 w u a) (ht : Sl .u32 w v b) (La : Lim a) (Lb : Lim b) (na : Nz a) (nb : Nz b) (hl : a.length ≤ 1000) (hb0 : b ≠ []) (hle : lv b ≤ lv a) :
    Calls Tryd.prog 53 #[u, v] w (RetVV w (lv a / lv b) (lv a % lv b)) := by
  have hlen : b.length ≤ a.length := by
    rcases Nat.lt_or_ge a.length b.length with h | h
    · have := lv_len La Lb nb h; omega
    · exact h
  obtain ⟨A, c, rfl, hc⟩ := hs.form
  obtain ⟨m, hm⟩ : ∃ m, b.length = m + 1 := ⟨b.length - 1, by have := List.length_pos_iff.2 hb0; omega⟩
  obtain ⟨ad, d, rfl, hd, _, hcd⟩ := ht.at_ m (by omega)
  have hD0 : 0 < lv b := by
    have := lv_ge Lb nb hb0
    have := pow_pos (b.length - 1)
    omega
  have htop : 0 < b.getD m 0 := by
    have h1 := nb hb0
    rw [List.getLast_eq_getElem] at h1
    have h2 : b.getD m 0 = b[b.length - 1]'(by omega) := by
      rw [List.getD_eq_getElem?_getD, List.getElem?_eq_getElem (by omega)]
      simp [hm]
    have := Lb.at_ m
    rw [h2] at this ⊢
    omega
  have btop := Lb.at_ m
  obtain ⟨n, hn1, hn2, hn3, hn4⟩ := bitLen_bd (b.getD m 0) htop (by omega)
  obtain ⟨s, es⟩ : ∃ s, s = 31 - n := ⟨_, rfl⟩
  have LZ := LeadingZeros32_c (b.getD m 0)
  rw [hn1] at LZ
  have LZ' : Hid (∀ w', Calls Tryd.prog 64 #[.int .u32 (b.getD m 0)] w' (fun e w'' => e = .returned (.int .i64 s) ∧ w' = w'')) := fun w' => by
    have := LZ w' (by omega) (by omega)
    rwa [show (32 - ((n + 1 : Nat) : Int)) = (s : Int) by omega] at this
  obtain ⟨la, hla⟩ : ∃ la, a.length = la := ⟨_, rfl⟩
  obtain ⟨nq, hnq⟩ : ∃ nq, m + nq = la := ⟨la - m, by omega⟩
  have NL := fun (D : List Int) (h1 : Lim D) (h2 : Nz D) (h3 : lv D = lv b * 2 ^ s) => norm_len Lb hm hn3 hn4 hn2 h1 h2 (by rw [← es]; exact h3)
  have NL := Lib.hid NL
  have UL := Lib.hid (fun (D : List Int) (h1 : Lim D) (h2 : Nz D) (h3 : lv D = lv a * 2 ^ s) => up_len (s := s) La hla (by omega) h1 h2 h3)
  have DS := Lib.hid (fun (P : List Int) (h1 : Lim P) (h2 : P.length = la + 1) (h3 : lv P = lv a * 2 ^ s) => dv_start (nq := nq) La hla Lb nb hm hnq h1 h2 h3)
  obtain ⟨q1, q2⟩ := div_shift (lv a) (lv b) s hD0
  have hDs : 0 < lv b * 2 ^ s := Int.mul_pos hD0 (two_pos s)
  have SB := Lib.hid (shiftUp_c _ b s w ht Lb (by omega) (by omega))
  have hs31 : s ≤ 31 := by omega
  have HS := Lib.hid hs
  have LA := Lib.hid La
  obtain ⟨A', eA'⟩ : ∃ x, lv a * 2 ^ s = x := ⟨_, rfl⟩
  obtain ⟨D', eD'⟩ : ∃ x, lv b * 2 ^ s = x := ⟨_, rfl⟩
  rw [eA', eD'] at q1 q2 DS
  rw [eD'] at SB NL hDs
  rw [eA'] at UL
  rw [← q1, ← q2]
  have hmkr := run_make_row' (P := Tryd.prog) 22 50 (.int .u32 0) 4 Tryd.underlying22 (by kernel_rfl) rfl .i64 .i64 (la + 1) (by omega) (by omega)
  have hmkq := run_make_row' (P := Tryd.prog) 22 50 (.int .u32 0) 4 Tryd.underlying22 (by kernel_rfl) rfl .i64 .i64 nq (by omega) (by omega)
  rw [show ((la + 1 : Nat) : Int) = (la : Int) + 1 by omega] at hmkr
  rw [show ((nq : Nat) : Int) = (la : Int) - ((m : Int) + 1) + 1 by omega] at hmkq
  rw [hm] at hd SB ⊢
  rw [hla] at hc HS ⊢
  have EA := Lib.hid eA'
  have LZ2 : Hid (∀ P, lv P = A' → Lim P → P.length ≤ 2000 → ∀ vs w', Sl .u32 w' vs P → True) := fun _ _ _ _ _ _ _ => trivial
  have HNQ := Lib.hid hnq
  have nq0 : (nq : Int) = (la : Int) - (m : Int) := by omega
  have hm9 : m ≤ 1000 := by omega
  have hla9 : la ≤ 1000 := by omega
  have hmla : m + 1 ≤ la := by omega
  have HLA := Lib.hid hla
  have UA : Hid (∀ w' (h : Sl .u32 w' (.slice A la c) a), Calls Tryd.prog 36 #[.slice A la c, .int .i64 s] w' (RetV w' A')) := fun w' h => by
    have := shiftUp_c _ a s w' h LA.out (by omega) (by omega)
    rwa [EA.out] at this
  generalize b.getD m 0 = tp at *
  clear hs ht La Lb na nb hb0 hle hlen hn1 hn2 hn3 hn4 es LZ q1 q2 eA' eD' hla hm hl hD0 hnq LZ2
  go_enter Tryd.func53, Tryd.ntmps53
  go_wp2_with (first | (go_at_call 64; (with_reducible refine (LZ'.out _).mono ?_); rintro e w' ⟨rfl, rfl⟩) | (go_at_call 36; (with_reducible refine (SB.out).mono ?_); rintro e w1 ⟨dA, dn, dc, rfl, hDV, hB1⟩ ; obtain ⟨DL, hDS, lDL, nDL, vDL⟩ := hDV ; have hDl := NL.out DL lDL nDL vDL ; have HDS := Lib.hid hDS ; have HDL := Lib.hid (And.intro lDL (And.intro nDL (And.intro vDL hDl))) ; have hA1 := Lib.hid ((HS.out.below hB1).alloc (.cells (madeCells #[.int .u32 0] (la + 1)) 50)) ; clear hDS lDL nDL vDL hDl) | (go_at_call 36; (with_reducible refine (UA.out _ hA1.out).mono ?_); rintro e w2 ⟨rA, rn, rc, rfl, hRV, hB2⟩ ; obtain ⟨PA, hPS, lPA, nPA, vPA⟩ := hRV ; have hPl := UL.out PA lPA nPA vPA ; have HPS := Lib.hid hPS ; have HPA := Lib.hid (And.intro lPA (And.intro nPA vPA)) ; have hB12 : Below w1.heap.size w1 w2 := ((Below.refl _ _).alloc (Nat.le_refl _) _).trans (hB2.mono (by simp)) ; have hR2 := Lib.hid (Row.below' (Row.new .u32 50 w1 (la + 1)) hB2) ; clear hPS lPA nPA vPA) | ((with_reducible show wpList _ _ _ _ _ _); refine wp_copy_limbs (w := w2) rfl (.tmp 25) (.tmp 28) rfl w1.heap.size (la + 1) rfl _ rfl PA HPS.out hPl hR2.out w1.heap.size w1 hB12 (Nat.le_refl _) ?_; intro w3 hR3 hB3))
  clear hmkr hmkq
  have h13 := Row.lt hR3.out
  go_loopw [10] (fun iv wr => ∃ (k : Nat) (Q P : List Int), iv = .int .i64 ((k : Int) - 1) ∧ k ≤ nq ∧ Hid (DvI A' D' nq k Q P (la + 1)) ∧ Hid (Row .u32 50 wr w1.heap.size P) ∧ Hid (Row .u32 50 wr w3.heap.size Q) ∧ Hid (Below w1.heap.size w1 wr)) (fun iv _ => (intOf iv + 1).toNat)
  case atStart => exact ⟨nq, _, _, by rw [nq0], Nat.le_refl _, DS.out _ (Lim.pad HPA.out.1 _) (len_pad _ _ hPl) (by rw [lv_pad]; exact HPA.out.2.2), Row.alloc hR3.out _, Row.new' _ _ _ _ rfl, hB3.alloc (by omega) _⟩
  case round =>
    obtain ⟨k, Q, P, rfl, hk, hI, hRP, hRQ, hB⟩ := hrel
    by_cases hk0 : 0 < k
    · obtain ⟨i, rfl⟩ : ∃ i, k = i + 1 := ⟨k - 1, by omega⟩
      have ik : ((i + 1 : Nat) : Int) - 1 = i := by omega
      have hPl2 := hI.out.lenP
      have hQl := hI.out.lenQ
      have hmn := HNQ.out
      have SA := SlA.old HDS.out hB.out (Nat.le_refl _)
      have WL := window_lt (m := m + 1) hI.out.limP (by omega) hI.out.lt
      have QL := quotientLimb_c w1.heap.size i (m + 2) (la + 1 - i) _ ((P.drop i).take (m + 2)) DL _ wr hRP.out (Wn.part P i (m + 2)) (by simp; omega) SA ((hI.out.limP.drop i).take _) HDL.out.1 HDL.out.2.1 (by rw [HDL.out.2.2.2]) (by omega) (by omega) (by intro h; have := HDL.out.2.2.2; rw [h] at this; simp at this) (by rw [HDL.out.2.2.1]; exact WL)
      rw [HDL.out.2.2.1] at QL
      have QL2 : Calls Tryd.prog 65 #[.slice (some ⟨w1.heap.size, i, none⟩) (i + (m + 1) + 1 - i) (la + 1 - i), .slice dA dn dc] wr (RetEd wr w1.heap.size ((P.map (Value.int .u32)).toArray) i (m + 2) fun M k => k = lv ((P.drop i).take (m + 2)) / D' ∧ lv M = lv ((P.drop i).take (m + 2)) % D') := by
        rw [show i + (m + 1) + 1 - i = m + 2 by omega]; exact QL
      have QL := Lib.hid QL2
      have hDB : D' ≤ 4294967296 ^ (m + 1) := by
        have := lv_lt HDL.out.1
        rw [HDL.out.2.2.1, HDL.out.2.2.2] at this
        exact Int.le_of_lt this
      have HDB := Lib.hid hDB
      have HPl2 := Lib.hid hPl2
      have HQl := Lib.hid hQl
      have ib : (i : Int) + (m + 1) + 1 ≤ la + 1 := by omega
      have iq : (i : Int) < nq := by omega
      have fq := hRQ.out.frozen i
      have cq := hRQ.out.at_ i (by omega)
      clear hPl2 hQl hmn WL SA hk0 hDB QL2
      go_wp2_with (first | (go_at_call 65; (with_reducible refine (QL.out).mono ?_); rintro e w4 ⟨M, qk, rfl, hE, hLM, k0, k1, hv⟩ ; have hRQ4 := Lib.hid (Row.grown hRQ.out hE.grown (by omega)) ; have fq4 := hRQ4.out.frozen i ; have cq4 := hRQ4.out.at_ i (by have := HQl.out; omega)))
      have hI2 := DvI.step (m := m + 1) hI.out hDs HDB.out (by omega) (by omega) hE.len hLM hv.out.1 hv.out.2 k0 k1
      have hRP4 := hE.row (by have := HPl2.out; omega)
      exact ⟨⟨i, _, _, by simp, by omega, hI2, Row.far hRP4 (by simp; omega) _, Row.set_ hRQ4.out i qk, (hE.below hB.out (Nat.le_refl _) hB.out.size).setCell (by simp; omega) _⟩, by simp only [intOf]; omega⟩
    · obtain rfl : k = 0 := by omega
      have hDn := hI.out.done hDs
      have hPl2 := hI.out.lenP
      have hQl := hI.out.lenQ
      have SQ := hRQ.out.sl nq (by omega)
      have SP := hRP.out.sl (la + 1) (by omega)
      have TQ := trim_c (some ⟨w3.heap.size, 0, none⟩) nq nq Q wr (by rw [hQl] at SQ; exact SQ) (by omega)
      have TP := trim_c (some ⟨w1.heap.size, 0, none⟩) (la + 1) (la + 1) P wr (by rw [hPl2] at SP; exact SP) (by omega)
      have TQ := Lib.hid TQ
      have TP := Lib.hid TP
      have SQ := Lib.hid SQ
      have SP := Lib.hid SP
      have HPl2 := Lib.hid hPl2
      have HDn := Lib.hid hDn
      have hW : Hid (∀ m6, m6 ≤ P.length → lv (P.take m6) = lv P → Calls Tryd.prog 34 #[.slice (some ⟨w1.heap.size, 0, none⟩) m6 (la + 1), .int .i64 s] wr (RetV wr (A' % D' / 2 ^ s))) := fun m6 h1 h2 => by
        have h3 := shiftDown_c _ (P.take m6) s wr (SP.out.take m6 h1) (hI.out.limP.take m6) (by simp; omega) (by omega)
        rw [h2, HDn.out.2] at h3
        exact h3
      clear hDn hPl2 hQl
      go_wp2_with (first | (go_at_call 39; (with_reducible refine (TQ.out).mono ?_); rintro e w5 ⟨m5, rfl, hm5, hz5, hv5, rfl⟩ ; clear TQ) | (go_at_call 39; (with_reducible refine (TP.out).mono ?_); rintro e w6 ⟨m6, rfl, hm6, hz6, hv6, rfl⟩) | (go_at_call 34; (with_reducible refine (hW.out _ hm6 hv6).mono ?_); rintro e w7 ⟨zA, zn, zc, rfl, hZV, hB7⟩))
      go_ret2
      have hB0 := hB1.trans (hB.out.mono hB1.size)
      exact ⟨_, _, _, _, _, _, rfl, (trimmed SQ.out hm5 hI.out.limQ hz5 hv5 HDn.out.1).below hB7, hZV, hB0.trans (hB7.mono hB0.size)⟩
/-- what Div tells of an error -/
def errDiv (l m : List Int) : Int := if chk2 l m ≠ 0 then chk2 l m else if m = [] then 1 else 0
def RetD (w : World) (er q r : Int) (e : Ending) (w' : World) : Prop := ∃ A n c A' n' c', e = .returned (.tuple #[.slice A n c, .slice A' n' c', .int .i64 er]) ∧ NV w' (.slice A n c) q ∧ NV w' (.slice A' n' c') r ∧ Below w.heap.size w w'
theorem RetD.err {w w' : World} {er : Int} (hb : Below w.heap.size w w') : RetD w er 0 0 (.returned (.tuple #[.slice none 0 0, .slice none 0 0, .int .i64 er])) w' := ⟨none, 0, 0, none, 0, 0, rfl, NV.nil _ _ _, NV.nil _ _ _, hb⟩
theorem Head.sl {w : World} {B g c : Nat} {l : List Int} (h : Head w B g c l) : Sl .u32 w (.slice (some ⟨g, 0, none⟩) l.length c) l := by
  obtain ⟨_, hc, cs, hb, hw⟩ := h
  refine ⟨_, c, rfl, hc, .inr ⟨⟨g, 0, none⟩, rfl, hb.lt, fun j hj => ?_⟩⟩
  have e : (⟨g, 0, none⟩ : Addr).add j = ⟨g, 0 + j, none⟩ := by unfold Addr.add; split <;> simp_all
  rw [e, hb.at_ _ (hw j hj), List.getD_eq_getElem?_getD, List.getElem?_eq_getElem hj]; rfl
theorem undrewN {w w' : World} {k : Nat} (h : Below (w.drewN k).heap.size (w.drewN k) w') : Below w.heap.size w w' := ⟨h.os, h.tape, h.output, h.size, h.block⟩
set_option maxRecDepth 100000 in
theorem Div_c (u v : Value) (l m : List Int) (w : World) (hs : Sl .u32 w u l) (ht : Sl .u32 w v m) (hl : l.length ≤ 9223372036854775807) (hm : m.length ≤ 9223372036854775807) (Ll : Lim l) (Lm : Lim m) :
    Calls Tryd.prog 29 #[u, v] w (RetD w (errDiv l m) (if errDiv l m = 0 then lv l / lv m else 0) (if errDiv l m = 0 then lv l % lv m else 0)) := by
  have C := Lib.hid (checkBoth_c u v l m w hs ht hl hm)
  obtain ⟨A, c, rfl, hc⟩ := hs.form
  obtain ⟨B, d, rfl, hd⟩ := ht.form
  by_cases h : chk2 l m = 0
  · have h1 := (chk2_ok.1 h)
    have h2 := chk_ok.1 h1.1
    have h3 := chk_ok.1 h1.2
    rw [h] at C
    by_cases h0 : m = []
    · have he : errDiv l m = 1 := by unfold errDiv; rw [if_neg (by simpa using h), if_pos h0]
      rw [he, if_neg (by decide), if_neg (by decide)]
      have hy : m.length = 0 := by simp [h0]
      obtain ⟨x, ex⟩ : ∃ x, x = l.length := ⟨_, rfl⟩
      rw [← ex] at hc C ⊢
      rw [hy] at hd C ⊢
      have h2' : x ≤ 400 := by rw [ex]; exact h2.1
      clear hs ht hl hm Ll Lm h h1 h2 h3 h0 he hy ex
      go_enter Tryd.func29, Tryd.ntmps29
      go_wp2_with (first | (go_at_call 49; (with_reducible refine (C.out).mono ?_); rintro e w' ⟨rfl, rfl⟩))
      go_ret3
      exact RetD.err (Below.refl _ _)
    · have he : errDiv l m = 0 := by unfold errDiv; rw [if_neg (by simpa using h), if_neg h0]
      rw [he, if_pos rfl, if_pos rfl]
      have P := Lib.hid (compare_c _ _ l m w hs ht Ll Lm h2.2 h3.2 (by omega) (by omega))
      have HC : Hid (∀ w', Sl .u32 w' (.slice A l.length c) l → Calls Tryd.prog 38 #[.slice A l.length c] w' (RetH w' l)) := fun w' h => clone_c _ l w' h (by omega)
      have HD : Hid (∀ w', lv m ≤ lv l → Sl .u32 w' (.slice A l.length c) l → Sl .u32 w' (.slice B m.length d) m → Calls Tryd.prog 53 #[.slice A l.length c, .slice B m.length d] w' (RetVV w' (lv l / lv m) (lv l % lv m))) := fun w' h5 h6 h7 =>
        divide_c _ _ l m w' h6 h7 Ll Lm h2.2 h3.2 (by omega) h0 h5
      have hpos := List.length_pos_iff.2 h0
      have HS := Lib.hid hs
      have HT := Lib.hid ht
      have H2 := Lib.hid h2
      have HL := Lib.hid Ll
      obtain ⟨x, ex⟩ : ∃ x, x = l.length := ⟨_, rfl⟩
      obtain ⟨y, ey⟩ : ∃ y, y = m.length := ⟨_, rfl⟩
      have HX := Lib.hid ex
      have x4 : x ≤ 400 := by rw [ex]; exact h2.1
      have y4 : y ≤ 400 := by rw [ey]; exact h3.1
      rw [← ex] at hc C HS P HC HD ⊢
      rw [← ey] at hd C HT P HD hpos ⊢
      have e3 : ((y : Int) == 0) = false := by simp; omega
      by_cases hlt : lv l < lv m
      · rw [Z.cmpv_lt hlt] at P
        have q0 : lv l / lv m = 0 := Int.ediv_eq_zero_of_lt (lv_nonneg Ll) hlt
        have r0 : lv l % lv m = lv l := Int.emod_eq_of_lt (lv_nonneg Ll) hlt
        rw [q0, r0]
        clear hs ht hl hm Ll Lm h h1 h2 h3 h0 he hlt ex ey q0 r0 HD
        go_enter Tryd.func29, Tryd.ntmps29
        go_wp2_with (first | (go_at_call 49; (with_reducible refine (C.out).mono ?_); rintro e w' ⟨rfl, rfl⟩) | (go_at_call 52; (with_reducible refine (P.out).mono ?_); rintro e w2 ⟨rfl, k, rfl⟩) | (go_at_call 38; (with_reducible refine (HC.out _ (HS.out.drewN k)).mono ?_); rintro e w3 ⟨g, c3, rfl, hH3, hB3⟩))
        go_ret3
        exact ⟨_, _, _, _, _, _, rfl, NV.nil _ _ _, ⟨l, hH3.out.sl, HL.out, H2.out.2, rfl⟩, undrewN hB3⟩
      · have q0 := Z.cmpv_ge0 hlt
        have HLE : Hid (lv m ≤ lv l) := Int.not_lt.1 hlt
        generalize cmpv (lv l) (lv m) = q at P q0
        have e1 : decide (q < 0) = false := by simp; omega
        clear hs ht hl hm Ll Lm h h1 h2 h3 h0 he hlt ex ey HC q0
        go_enter Tryd.func29, Tryd.ntmps29
        go_wp2_with (first | (go_at_call 49; (with_reducible refine (C.out).mono ?_); rintro e w' ⟨rfl, rfl⟩) | (go_at_call 52; (with_reducible refine (P.out).mono ?_); rintro e w2 ⟨rfl, k, rfl⟩) | (go_at_call 53; (with_reducible refine (HD.out _ HLE.out (HS.out.drewN k) (HT.out.drewN k)).mono ?_); rintro e w3 ⟨A1, n1, c1, A2, n2, c2, rfl, hq, hr, hB3⟩))
        go_ret3
        exact ⟨_, _, _, _, _, _, rfl, hq, hr, undrewN hB3⟩
  · have he : errDiv l m = chk2 l m := by unfold errDiv; rw [if_pos h]
    obtain ⟨r, hr⟩ : ∃ r, r = chk2 l m := ⟨_, rfl⟩
    rw [he]
    rw [← hr] at C h ⊢
    have e1 : (r != 0) = true := by simp [h]
    rw [if_neg h, if_neg h]
    clear hs ht hl hm Ll Lm hr h he
    go_enter Tryd.func29, Tryd.ntmps29
    go_wp2_with (first | (go_at_call 49; (with_reducible refine (C.out).mono ?_); rintro e w' ⟨rfl, rfl⟩))
    go_ret3
    exact RetD.err (Below.refl _ _)
end NC
end Go.Proofs.YtjihapnplfdmmaaDoor
