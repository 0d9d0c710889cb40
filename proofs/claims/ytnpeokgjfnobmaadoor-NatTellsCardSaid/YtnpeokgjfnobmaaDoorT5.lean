/-
  Texts glued together for a claim: NK4 NT2 NIn.
-/
import Derived.Test.YtnpeokgjfnobmaaDoorT4
/-
  NatShifts: the walk.
-/
namespace Go.Proofs.YtnpeokgjfnobmaaDoor
set_option linter.unusedVariables false
set_option linter.unusedSimpArgs false
open Go.RowKit
set_option linter.unusedVariables false
namespace NK
open L NC
open Z (Nz Tz cmpv)
theorem two_mono {a b : Nat} (h : a ≤ b) : (2 : Int) ^ a ≤ 2 ^ b := by
  obtain ⟨d, rfl⟩ : ∃ d, b = a + d := ⟨b - a, by omega⟩
  rw [Int.pow_add]
  have h1 := two_pos a
  have h2 := two_pos d
  have := Int.mul_le_mul_of_nonneg_left (show (1 : Int) ≤ 2 ^ d by omega) (Int.le_of_lt h1)
  omega
theorem two_lt {a b : Nat} (h : (2 : Int) ^ a < 2 ^ b) : a < b := by
  rcases Nat.lt_or_ge a b with h1 | h1
  · exact h1
  · have := two_mono h1; omega
theorem bits_shift {z : Int} {n k m : Nat} (h0 : 0 < z) (h1 : z < 2 ^ k ∧ (k = 0 ∨ 2 ^ (k - 1) ≤ z)) (h2 : z * 2 ^ n < 2 ^ m ∧ (m = 0 ∨ 2 ^ (m - 1) ≤ z * 2 ^ n)) : m = k + n := by
  have hn := two_pos n
  have hx : 0 < z * 2 ^ n := Int.mul_pos h0 hn
  have hk : k ≠ 0 := by intro e; rw [e] at h1; simp at h1; omega
  have hm : m ≠ 0 := by intro e; rw [e] at h2; simp at h2; omega
  have g1 : 2 ^ (k - 1 + n) ≤ z * 2 ^ n := by
    rw [Int.pow_add]
    exact Int.mul_le_mul_of_nonneg_right (h1.2.resolve_left hk) (Int.le_of_lt hn)
  have g2 : z * 2 ^ n < 2 ^ (k + n) := by
    rw [Int.pow_add]
    exact Int.mul_lt_mul_of_pos_right h1.1 hn
  have g3 := two_lt (Int.lt_of_le_of_lt g1 h2.1)
  have g4 := two_lt (Int.lt_of_le_of_lt (h2.2.resolve_left hm) g2)
  omega
theorem shift_small {a : Int} {n : Nat} (ha : a < 4294967296 ^ 400) (h0 : 0 ≤ a) (hn : n ≤ 20001) : a * 2 ^ n < big3 := by
  have h1 : (2 : Int) ^ n ≤ 4294967296 ^ 626 := by rw [pow_two]; exact two_mono (by omega)
  have h2 : a * 2 ^ n ≤ 4294967296 ^ 400 * 4294967296 ^ 626 := Int.mul_le_mul (Int.le_of_lt ha) h1 (Int.le_of_lt (two_pos n)) (Int.le_of_lt (pow_pos _))
  rw [← Int.pow_add] at h2
  have h3 : (4294967296 : Int) ^ 1027 ≤ 4294967296 ^ 3000 := pow_mono (by decide)
  have h4 : (4294967296 : Int) ^ 1027 = 4294967296 ^ (400 + 626) * 4294967296 := Int.pow_succ _ _
  have h5 := pow_pos (400 + 626)
  unfold big3
  generalize (4294967296 : Int) ^ 3000 = c3000 at *
  generalize (4294967296 : Int) ^ 1027 = c1027 at *
  generalize (4294967296 : Int) ^ (400 + 626) = c1026 at *
  omega
theorem sh_err {u : Value} {er z n : Int} {w : World} (h : PV w u er z) (he : er ≠ 0) : Calls Tryd.prog 11 #[u, .int .i64 n] w (RetSh w er 0 false) := by
  obtain ⟨l, h1, h2, h3, h4, h5⟩ := h
  have := ShiftErr_c u l n w h1 h3 (by rw [h4]; exact he)
  rwa [h4] at this
theorem sh_far {u : Value} {z n : Int} {w : World} (h : PV w u 0 z) (hn : n < -20000 ∨ 20000 < n) : Calls Tryd.prog 11 #[u, .int .i64 n] w (RetSh w 1 0 false) := by
  obtain ⟨l, h1, h2, h3, h4, h5⟩ := h
  exact ShiftFar_c u l n w h1 h3 h4 hn
theorem sh_up {u : Value} {z : Int} {w : World} (h : PV w u 0 z) (n : Nat) (hn : n ≤ 20000) : Calls Tryd.prog 11 #[u, .int .i64 n] w (RetSh w 0 (z * 2 ^ n) false) := by
  obtain ⟨l, h1, h2, h3, h4, h5⟩ := h
  have := ShiftUp_c u l n w h1 h2 h4 hn
  rwa [h5] at this
theorem sh_down {u : Value} {z : Int} {w : World} (h : PV w u 0 z) (n : Nat) (h0 : 0 < n) (hn : n ≤ 20000) (hT : TabD w) : Calls Tryd.prog 11 #[u, .int .i64 (-(n : Int))] w (RetSh w 0 (z / 2 ^ n) (decide (z % 2 ^ n ≠ 0))) := by
  obtain ⟨l, h1, h2, h3, h4, h5⟩ := h
  have := ShiftDown_c u l n w h1 h2 h4 hn h0 hT
  rwa [h5] at this
theorem sh_back {u : Value} {z : Int} {w : World} (n : Nat) (h : PV w u 0 (z * 2 ^ n)) (hn : n ≤ 20000) (hT : TabD w) : Calls Tryd.prog 11 #[u, .int .i64 (-(n : Int))] w (RetSh w 0 z false) := by
  by_cases h0 : n = 0
  · subst h0
    have := sh_up h 0 (by omega)
    simpa using this
  · have := sh_down h n (by omega) hn hT
    rw [Int.mul_ediv_cancel _ (by have := two_pos n; omega), Int.mul_emod_left] at this
    simpa using this
theorem bits_p {u : Value} {er z : Int} {w : World} (h : PV w u er z) : Calls Tryd.prog 10 #[u] w (RetBits w er z) := by
  obtain ⟨l, h1, h2, h3, h4, h5⟩ := h
  have := Bits_c u l w h1 h3 h2
  rwa [h4, h5] at this
end NK
end Go.Proofs.YtnpeokgjfnobmaaDoor

/-
  NatTells: all ways.
-/
namespace Go.Proofs.YtnpeokgjfnobmaaDoor
set_option linter.unusedVariables false
set_option linter.unusedSimpArgs false
open Go.RowKit
set_option linter.unusedVariables false
namespace NT
open L NC NK
open Z (Nz Tz cmpv big)
open ZC (Is ZV ZL ZLF RetZ SS rights right)
theorem ways (v : Value) (n z : Int) (w : World) (hp : PV w v 0 z) (hT : TabD w) : ∃ f zx bl, Ways n z f zx bl ∧ Calls Tryd.prog 11 #[v, .int .i64 n] w (RetSh w f zx bl) := by
  have s := hp.small
  have hz4 := s.2 rfl
  have hz3 : z < 4294967296 ^ 3000 := Int.lt_of_lt_of_le hz4 (pow_mono (by decide))
  by_cases hn : n < -20000 ∨ 20000 < n
  · exact ⟨1, 0, false, .inl ⟨hn, rfl, rfl, rfl⟩, sh_far hp hn⟩
  · by_cases h0 : 0 ≤ n
    · obtain ⟨k, rfl⟩ := Int.eq_ofNat_of_zero_le h0
      refine ⟨0, z * 2 ^ k, false, .inr (.inl ⟨h0, by omega, rfl, rfl, 2 ^ k, rfl, ?_, fun W => ?_, ?_⟩), sh_up hp k (by omega)⟩
      · have := shift_small hz4 s.1 (show k ≤ 20001 by omega)
        exact this
      · have := ZC.ZPow_c k (k : Int) W (by omega) (by simp) (by omega)
        simpa using this
      · exact ZC.pow2_big k (by omega)
    · obtain ⟨k, hk⟩ := Int.eq_ofNat_of_zero_le (show 0 ≤ -n by omega)
      have hk' : n = -(k : Int) := by omega
      subst hk'
      have hpos : (0 : Int) < 2 ^ k := Int.pow_pos (by decide)
      have hm := Int.emod_nonneg z (Int.ne_of_gt hpos)
      have hd : z / 2 ^ k ≤ z := Int.ediv_le_self _ s.1
      have hr : z % 2 ^ k ≤ z := by
        have h1 := Int.mul_ediv_add_emod z (2 ^ k)
        have h2 := Int.mul_nonneg (Int.le_of_lt hpos) (Int.ediv_nonneg s.1 (Int.le_of_lt hpos))
        omega
      refine ⟨0, z / 2 ^ k, decide (z % 2 ^ k ≠ 0), .inr (.inr ⟨by omega, by omega, rfl, 2 ^ k, Int.ne_of_gt hpos, rfl, by omega, ?_, ?_, fun W => ?_, ?_⟩), sh_down hp k (by omega) (by omega) hT⟩
      · apply decide_eq_decide.2; omega
      · exact (small_nat hm (by omega)).2
      · have := ZC.ZPow_c k (k : Int) W (by omega) (by simp) (by omega)
        rw [show -(-(k : Int)) = k by omega]
        simpa using this
      · exact ZC.pow2_bigN k 900000 (by omega) (by decide)
theorem tells_c (A : Option Addr) (l c : Nat) (L : List Int) (n : Int) (w : World) (hs : Sl .u32 w (.slice A l c) L) (Ll : Lim L) (hl : L.length ≤ 9223372036854775807) (hT : TabD w) :
    Calls Tryd.prog 3 #[.slice A l c, .int .i64 n] w fun e w' => e = .returned (.bool true) ∧ Below w.heap.size w w' := by
  have LR : ∀ W, Below w.heap.size w W → Calls Tryd.prog 14 #[.slice (some ⟨W.heap.size, 0, none⟩) 1 1] (W.alloc (.cells #[.slice A l c] 22)) (ZC.RetQ (W.alloc (.cells #[.slice A l c] 22)) (.int .i64 (chk L))) := fun W hW => right_c _ L W (hs.below hW) hl
  by_cases h0 : chk L = 0
  · have hp : PV w (.slice A l c) 0 (lv L) := ⟨L, hs, Ll, hl, h0, rfl⟩
    have sm := hp.small
    obtain ⟨f, zx, bl, hW, SH⟩ := ways _ n _ w hp hT
    have hz3 : lv L < 4294967296 ^ 3000 := Int.lt_of_lt_of_le (sm.2 rfl) (pow_mono (by decide))
    refine tells_main A l c n (lv L) f zx bl (bs (ztext (lv L))) w hW sm.1 (sm.2 rfl) rfl (Lib.hid (bits_p hp)) (Lib.hid SH) (Lib.hid fun W hW => ?_) (Lib.hid fun W hW => ?_) (Lib.hid fun W hW => ?_) (Lib.hid fun W hW => ?_)
    · have := Root_c _ L W (hs.below hW) hl Ll
      rwa [h0] at this
    · have := Text_c _ L W (hs.below hW) hl Ll
      rw [h0, if_pos rfl] at this
      have e : ztext (lv L) = dec (lv L).toNat := by
        unfold ztext
        rw [if_neg (by omega)]
        congr 1; omega
      rw [e]; exact this
    · have := LR W hW
      rwa [h0] at this
    · exact zlimbs_nv _ _ W (hp.below hW).nv hz3
  · have hp : PV w (.slice A l c) (chk L) (lv L) := ⟨L, hs, Ll, hl, rfl, rfl⟩
    refine tells_err A l c n (chk L) w h0 (Lib.hid ?_) (Lib.hid (sh_err hp h0)) (Lib.hid fun W hW => ?_) (Lib.hid fun W hW => ?_) (Lib.hid LR)
    · refine (bits_p hp).mono fun e w' h => ?_
      obtain ⟨k, rfl, -, -, hk, rfl⟩ := h
      have := hk.out h0
      subst this
      exact ⟨rfl, rfl⟩
    · refine (Root_c _ L W (hs.below hW) hl Ll).mono fun e w' h => ?_
      obtain ⟨A', n', c', b, R, rfl, hv, hb, -, h2⟩ := h
      obtain ⟨rfl, rfl⟩ := h2.out h0
      exact ⟨A', n', c', rfl, hv, hb⟩
    · have := Text_c _ L W (hs.below hW) hl Ll
      rw [if_neg h0] at this
      exact this
end NT
end Go.Proofs.YtnpeokgjfnobmaaDoor

/-
  A slice of limbs that came in, in my words.
-/
namespace Go.Proofs.YtnpeokgjfnobmaaDoor
set_option linter.unusedVariables false
set_option linter.unusedSimpArgs false
open Go.RowKit
set_option linter.unusedVariables false
namespace NC
open L
theorem row_sl {w : World} {a : Option Addr} {n c : Nat} {zs : List Int}
    (h : (a = none ∧ n = 0 ∧ c = 0 ∧ zs = []) ∨ ∃ x, a = some x ∧ n ≤ c ∧ c ≤ maxLen ∧ zs.length = c ∧ (∀ i, i < zs.length → w.cell? (x.add i) = some (.int .u32 (zs.getD i 0))) ∧ ∀ n ∈ zs, (Lit.int .u32 n).wf = true) :
    Sl .u32 w (.slice a n c) (zs.take n) ∧ Lim (zs.take n) ∧ (zs.take n).length ≤ 9223372036854775807 := by
  rcases h with ⟨rfl, rfl, rfl, rfl⟩ | ⟨x, rfl, hn, hc, hz, hcell, hwf⟩
  · exact ⟨Sl.nil _ _ _ _, Lim.nil, by simp⟩
  · have hl : (zs.take n).length = n := by rw [List.length_take, hz]; exact Nat.min_eq_left hn
    refine ⟨⟨some x, c, by rw [hl], by rw [hl]; exact hn, ?_⟩, fun d hd => ?_, by rw [hl]; exact Nat.le_trans hn hc⟩
    · by_cases h0 : n = 0
      · left; subst h0; simp
      · right
        refine ⟨x, rfl, ?_, fun j hj => ?_⟩
        · have := World.block_lt_of_cell? w _ (hcell 0 (by omega))
          rwa [block_of_add] at this
        · rw [hl] at hj
          rw [hcell j (by omega), List.getElem_take, List.getD_eq_getElem?_getD, List.getElem?_eq_getElem (by omega)]; rfl
    · have := wfb_u32 (hwf d (List.mem_of_mem_take hd))
      omega
end NC
end Go.Proofs.YtnpeokgjfnobmaaDoor

