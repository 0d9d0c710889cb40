/-
  The library's slices.Sort of []uint64, walked: breakPatterns. (The generator's state lies in a box of the call's own.)
-/
import Derived.Test.YtlcelocjfmclkaaB1
import Derived.Test.YtlcelocjfmclkaaLay
namespace Go.Proofs.Ytlcelocjfmclkaa
open Go.RowKit
set_option linter.unusedVariables false
set_option linter.unusedSimpArgs false
namespace BC
open Go.Sort Go.Lib
def Bq (w0 : World) (g o : Nat) (d : Array Int) (k : Nat) (v : Value) (W : World) : Prop := Sq w0 g o d W ∧ W.cell? ⟨k, 0, none⟩ = some v ∧ W.frozen? ⟨k, 0, none⟩ = false ∧ w0.heap.size ≤ k ∧ k < W.heap.size
theorem Bq.put {w0 W : World} {g o k : Nat} {d : Array Int} {v : Value} (h : Bq w0 g o d k v W) (v' : Value) (q : Nat) : Bq w0 g o d k v' ((W.setCell ⟨k, 0, none⟩ v').drewN q) :=
  ⟨SW.drewN (SW.setCell_new h.1 k 0 v' h.2.2.2.1) q, by rw [World.cell?_drewN]; exact World.cell?_setCell_same _ _ _ h.2.1, by rw [World.frozen?_drewN, World.frozen?_setCell]; exact h.2.2.1, h.2.2.2.1, by simpa [World.drewN, World.setCell] using h.2.2.2.2⟩
theorem Bq.exd {w0 W : World} {g o k : Nat} {d0 d : Array Int} {v : Value} (h : Bq w0 g o d k v W) (R : Rq w0 g o d0) {G : Nat → Int} (hG : ∀ t, G t = d[t]!) (i j : Nat) (hi : i < d.size) (hj : j < d.size) :
    Bq w0 g o (swp d i j) k v (((W.setCell ⟨g, o + i, none⟩ (.int .u64 (G j))).setCell ⟨g, o + j, none⟩ (.int .u64 (G i))).drew) := by
  have hk : k ≠ g := by have := R.hblk; have := h.2.2.2.1; omega
  have hb := box_kept_swap1 hk h.2.1 h.2.2.1 (o + i) (o + j) (.int .u64 (G j)) (.int .u64 (G i))
  exact ⟨h.1.exd R hG i j hi hj, hb.1, hb.2, h.2.2.2.1, by simpa [World.drew, World.setCell] using h.2.2.2.2⟩
theorem Pow_c (L M : Nat) (hL : L < 4611686018427387904) (hM : M = 1 <<< bitsLen L) (w : World) : Calls Try.prog 61 #[.int .i64 L] w fun e w' => e = .returned (.int .u64 M) ∧ w' = w := by
  subst hM
  exact AnyF.nextPowerOfTwo (P := Try.prog) (ρ := Try.sortL_ren) { Try.sortL with } L hL w
theorem Next_c (k : Nat) (r : UInt64) (w0 w : World) (g o : Nat) (d : Array Int) (h : Bq w0 g o d k (.int .u64 (r.toNat : Int)) w) :
    Calls Try.prog 62 #[.pointer (some ⟨k, 0, none⟩)] w fun e w' => e = .returned (.int .u64 ((xorNext r).toNat : Int)) ∧ Bq w0 g o d k (.int .u64 ((xorNext r).toNat : Int)) w' := by
  have hx := AnyF.xorshift_Next (P := Try.prog) (ρ := Try.sortL_ren) { Try.sortL with } k 0 r.toNat r.toNat_lt w h.2.1 h.2.2.1
  rw [← xorNext_toNat] at hx
  refine Calls.mono (show Calls Try.prog 62 _ _ _ from hx) ?_
  rintro e w' ⟨rfl, rfl⟩
  exact ⟨rfl, h.put _ 3⟩
set_option maxRecDepth 100000 in
set_option maxHeartbeats 8000000 in
theorem break_c (g o c a b : Nat) (d0 d : Array Int) (w0 w : World) (R : Rq w0 g o d0) (hs : d0.size = d.size) (S : Sq w0 g o d w) (hab : a + 12 < b) (hb : b ≤ d.size) (hsz : d.size < 4611686018427387904) :
    Calls Try.prog 43 #[.slice (some ⟨g, o, none⟩) d.size c, .int .i64 a, .int .i64 b] w fun e w' => e = .returned (.tuple #[]) ∧ Sq w0 g o (breakPatterns d a b) w' := by
  have HR := Lib.hid R
  obtain ⟨L, rfl⟩ : ∃ L, b = a + L := ⟨b - a, by omega⟩
  rw [breakPatterns_eq d a L (by omega)]
  obtain ⟨M, hM⟩ : ∃ M : Nat, M = 1 <<< bitsLen L := ⟨_, rfl⟩
  have hM1 : 1 ≤ M := by rw [hM, Nat.one_shiftLeft]; exact Nat.two_pow_pos _
  have hM2 : M ≤ 2 * L := by rw [hM, Nat.one_shiftLeft]; exact two_pow_bitsLen_le (by omega)
  have NP := Lib.hid (fun w => Pow_c L M (by omega) hM w)
  rw [← hM]
  obtain ⟨q, hq⟩ : ∃ q, q = L / 4 := ⟨_, rfl⟩
  obtain ⟨i0, hi0⟩ : ∃ i0, i0 = a + q * 2 - 1 := ⟨_, rfl⟩
  obtain ⟨T, hT⟩ : ∃ T, T = bpRest a L M i0 3 0 (UInt64.ofNat L, d) := ⟨_, rfl⟩
  rw [← hq, ← hi0, ← hT]
  obtain ⟨e, he⟩ : ∃ e, e = a + q * 2 := ⟨_, rfl⟩
  obtain ⟨e1, he1⟩ : ∃ e1, e1 = e + 1 := ⟨_, rfl⟩
  obtain ⟨M1, hM3⟩ : ∃ M1, M1 = M - 1 := ⟨_, rfl⟩
  have z0 : ((a + L : Nat) : Int) - (a : Int) = (L : Int) := by omega
  have z0' : (a : Int) + (L : Int) - (a : Int) = (L : Int) := by omega
  have z1 : ((L : Int)).tdiv 4 = (q : Int) := by rw [Int.tdiv_eq_ediv_of_nonneg (by omega)]; omega
  have z2 : (L : Int) / 4 = (q : Int) := by omega
  have z3 : (a : Int) + (q : Int) * 2 = (e : Int) := by omega
  have z4 : (e : Int) - 1 = (i0 : Int) := by omega
  have z5 : (e : Int) + 1 = (e1 : Int) := by omega
  have z6 : (M : Int) - 1 = (M1 : Int) := by omega
  have l8 : (8 : Int) ≤ (L : Int) := by omega
  have v0 : IntKind.i64.wrap (L : Int) = L := by rw [IntKind.wrap_i64]; omega
  have v1 : IntKind.i64.wrap (q : Int) = q := by rw [IntKind.wrap_i64]; omega
  have v2 : IntKind.i64.wrap ((q : Int) * 2) = (q : Int) * 2 := by rw [IntKind.wrap_i64]; omega
  have v3 : IntKind.i64.wrap (e : Int) = e := by rw [IntKind.wrap_i64]; omega
  have v4 : IntKind.i64.wrap (i0 : Int) = i0 := by rw [IntKind.wrap_i64]; omega
  have v5 : IntKind.i64.wrap (e1 : Int) = e1 := by rw [IntKind.wrap_i64]; omega
  have v6 : IntKind.u64.wrap (M1 : Int) = M1 := by rw [IntKind.wrap_u64]; omega
  have v7 : IntKind.u64.wrap (L : Int) = L := by rw [IntKind.wrap_u64]; omega
  have B0 : Hid (Bq w0 g o d w.heap.size (.int .u64 ((UInt64.ofNat L).toNat : Int)) (w.alloc (.cells #[.int .u64 (L : Int)] 69))) := by
    have e : (UInt64.ofNat L).toNat = L := by simp; omega
    rw [e]
    exact ⟨SW.alloc S _, by simp, by simp, SW.le S, by simp⟩
  have HT := Lib.hid hT
  have EE : Hid (e1 = i0 + 2 ∧ i0 + 3 ≤ a + L ∧ a + L ≤ d.size ∧ M1 < 2 * L) := by unfold Hid; omega
  have HM3 : Hid (M1 = M - 1) := hM3
  obtain ⟨kb, hkb⟩ : ∃ kb, kb = w.heap.size := ⟨_, rfl⟩
  clear R S hM hM1 hM2 hq hi0 hT he he1 hM3 hab
  go_enter Try.func43, Try.ntmps43
  go_wp2_with (go_at_call 61; (with_reducible refine (NP.out _).mono ?_); rintro e w2 ⟨rfl, rfl⟩)
  rw [← hkb] at B0 ⊢
  clear hkb
  go_loopw [9] (fun iv wr => ∃ (x t : Nat) (r : UInt64) (dk : Array Int), iv = .int .i64 x ∧ x = i0 + t ∧ t ≤ 3 ∧ dk.size = d.size ∧ Hid (Bq w0 g o dk kb (.int .u64 (r.toNat : Int)) wr) ∧ Hid (bpRest a L M i0 (3 - t) t (r, dk) = T)) (fun iv _ => i0 + 3 - (Go.Proofs.intOf iv).toNat)
  case atStart => exact ⟨i0, 0, UInt64.ofNat L, d, rfl, rfl, by omega, rfl, B0, HT.out.symm⟩
  case round =>
    obtain ⟨x, t, r, dk, rfl, hx, ht, hsk, SK, HO⟩ := hrel
    by_cases ht3 : t < 3
    · have EO := EE.out
      have hxe : (x : Int) ≤ (e1 : Int) := by omega
      have hx1 : x < d.size := by omega
      obtain ⟨G, hG⟩ : ∃ G : Nat → Int, ∀ t, G t = dk[t]! := ⟨fun t => dk[t]!, fun _ => rfl⟩
      have HG := Lib.hid hG
      have HS : Hid (d0.size = d.size ∧ dk.size = d.size) := ⟨hs, hsk⟩
      have NX := Lib.hid (Next_c kb r w0 wr g o dk SK.out)
      obtain ⟨R', hR'⟩ : ∃ R' : Nat, R' = (xorNext r).toNat := ⟨_, rfl⟩
      have lR : R' < 18446744073709551616 := by rw [hR']; exact (xorNext r).toNat_lt
      obtain ⟨O, hO⟩ : ∃ O : Nat, O = R' &&& M1 := ⟨_, rfl⟩
      have lO : O ≤ M1 := by rw [hO]; exact Nat.and_le_right
      have eAnd : bits .and .u64 (R' : Int) (M1 : Int) = (O : Int) := by rw [bits_and_u64_nat _ _ lR (by omega), hO]
      have vO : IntKind.i64.wrap (O : Int) = O := by rw [IntKind.wrap_i64]; omega
      rw [← hR'] at NX
      have HO2 : Hid (O = (xorNext r).toNat &&& (M - 1) ∧ R' = (xorNext r).toNat) := ⟨by rw [hO, hR', HM3.out], hR'⟩
      have HX := Lib.hid hx
      clear hG hR' hO lR EO hx
      by_cases hLO : L ≤ O
      · have hLOz : (L : Int) ≤ (O : Int) := by omega
        obtain ⟨o2, ho2⟩ : ∃ o2, o2 = O - L := ⟨_, rfl⟩
        obtain ⟨y, hy⟩ : ∃ y, y = a + o2 := ⟨_, rfl⟩
        have y1 : (O : Int) - (L : Int) = (o2 : Int) := by omega
        have y2 : (a : Int) + (o2 : Int) = (y : Int) := by omega
        have y3 : IntKind.i64.wrap (o2 : Int) = o2 := by have := EE.out; rw [IntKind.wrap_i64]; omega
        have y4 : y < d.size := by have := EE.out; omega
        have y5 : IntKind.i64.wrap (y : Int) = y := by have := EE.out; rw [IntKind.wrap_i64]; omega
        have EQ : Hid (bpRest a L M i0 (3 - (t + 1)) (t + 1) (xorNext r, swp dk x y) = T) := by
          have := bp_step a L M i0 t r dk o2 ht3 (by rw [← HO2.out.1, if_pos hLO]; omega)
          unfold Hid
          rw [HX.out, hy, ← this]; exact HO.out
        clear ho2 hy
        go_wp2_with (go_at_call 62; (with_reducible refine NX.out.mono ?_); rintro e w2 ⟨rfl, S2⟩; have S2 := Lib.hid S2; obtain ⟨hc, hf⟩ := Sq.cells S2.out.1 HR.out HG.out HS.out; obtain ⟨u, hu⟩ := SW.c2 S2.out.1 HR.out (by have := HS.out; omega) x y (by have := HS.out; omega) (by have := HS.out; omega) (.int .u64 (G y)))
        have SN := Lib.hid (S2.out.exd HR.out HG.out x y (by have := HS.out; omega) (by have := HS.out; omega))
        go_region
        all_goals go_wp2
        exact ⟨⟨x + 1, t + 1, xorNext r, _, by go_num, by have := HX.out; omega, by omega, by rw [size_swp]; exact HS.out.2, by rw [← HO2.out.2]; exact SN.out, EQ.out⟩, by have := HX.out; simp [Go.Proofs.intOf] <;> omega⟩
      · have hLOz : ¬ (L : Int) ≤ (O : Int) := by omega
        obtain ⟨y, hy⟩ : ∃ y, y = a + O := ⟨_, rfl⟩
        have y2 : (a : Int) + (O : Int) = (y : Int) := by omega
        have y4 : y < d.size := by have := EE.out; omega
        have y5 : IntKind.i64.wrap (y : Int) = y := by have := EE.out; rw [IntKind.wrap_i64]; omega
        have EQ : Hid (bpRest a L M i0 (3 - (t + 1)) (t + 1) (xorNext r, swp dk x y) = T) := by
          have := bp_step a L M i0 t r dk O ht3 (by rw [← HO2.out.1, if_neg hLO])
          unfold Hid
          rw [HX.out, hy, ← this]; exact HO.out
        clear hy
        go_wp2_with (go_at_call 62; (with_reducible refine NX.out.mono ?_); rintro e w2 ⟨rfl, S2⟩; have S2 := Lib.hid S2; obtain ⟨hc, hf⟩ := Sq.cells S2.out.1 HR.out HG.out HS.out; obtain ⟨u, hu⟩ := SW.c2 S2.out.1 HR.out (by have := HS.out; omega) x y (by have := HS.out; omega) (by have := HS.out; omega) (.int .u64 (G y)))
        have SN := Lib.hid (S2.out.exd HR.out HG.out x y (by have := HS.out; omega) (by have := HS.out; omega))
        go_region
        all_goals go_wp2
        exact ⟨⟨x + 1, t + 1, xorNext r, _, by go_num, by have := HX.out; omega, by omega, by rw [size_swp]; exact HS.out.2, by rw [← HO2.out.2]; exact SN.out, EQ.out⟩, by have := HX.out; simp [Go.Proofs.intOf] <;> omega⟩
    · have EO := EE.out
      have hxe : ¬ (x : Int) ≤ (e1 : Int) := by omega
      obtain rfl : t = 3 := by omega
      have eT : dk = T := HO.out
      clear hx EO
      go_wp2
      go_end0
      exact ⟨rfl, by rw [← eT]; exact SK.out.1⟩
end BC
end Go.Proofs.Ytlcelocjfmclkaa
