/-
  The reference's whole numbers: one times the other.
-/
import Derived.Test.YtjihapnplfdmmaaZ5
import Derived.Test.YtjihapnplfdmmaaRow
import Derived.Test.YtjihapnplfdmmaaZMulP
namespace Go.Proofs.Ytjihapnplfdmmaa
open Go.RowKit
set_option linter.unusedVariables false
namespace ZC
open Z
set_option maxRecDepth 100000 in
set_option maxHeartbeats 8000000 in
theorem ZMul_c (va vb : Value) (a b : Int) (w : World) (ha : ZV w va a) (hb : ZV w vb b) (bA : a.natAbs < big 1000000) (bB : b.natAbs < big 1000000) :
    Calls Try.prog 15 #[va, vb] w (RetZ w (a * b)) := by
  obtain ⟨x, A, n, c, rfl, ha⟩ := ha
  obtain ⟨y, B, m, d, rfl, hb⟩ := hb
  have lA := ha.len bA
  have lB := hb.len bB
  obtain ⟨hx, X, hn, hs, dX, zX, vX⟩ := ha
  obtain ⟨hy, Y, hm, ht, dY, zY, vY⟩ := hb
  have hfin : sg (!(x == y)) (val X * val Y) = a * b := by
    rw [vX, vY, hx, hy]
    by_cases h1 : a < 0 <;> by_cases h2 : b < 0 <;> simp [sg, h1, h2]
    · rw [show ((a.natAbs : Nat) : Int) = -a by omega, show ((b.natAbs : Nat) : Int) = -b by omega]; grind
    · rw [show ((a.natAbs : Nat) : Int) = -a by omega, show ((b.natAbs : Nat) : Int) = b by omega]; grind
    · rw [show ((a.natAbs : Nat) : Int) = a by omega, show ((b.natAbs : Nat) : Int) = -b by omega]; grind
    · rw [show ((a.natAbs : Nat) : Int) = a by omega, show ((b.natAbs : Nat) : Int) = b by omega]
  have HF := Lib.hid hfin
  have HS := Lib.hid hs
  have HT := Lib.hid ht
  have DX := Lib.hid dX
  have DY := Lib.hid dY
  have HN := Lib.hid hn
  have HM := Lib.hid hm
  clear hfin hs ht dX dY zX zY vX vY hx hy hn hm bA bB
  have hmk := run_make_row' (P := Try.prog) 32 3 (.int .i64 0) 8 Try.underlying32 (by kernel_rfl) rfl .i64 .i64 (n + m + 1) (by omega) (by omega)
  rw [show ((n + m + 1 : Nat) : Int) = (n : Int) + (m : Int) + 1 by omega] at hmk
  go_enter Try.func15, Try.ntmps15
  go_upto_region 1 with fail
  go_cut [5] (fun s5 wx => ∃ g gs, s5 = .pointer (some ⟨g, 0, none⟩) ∧ g ≠ gs ∧ w.heap.size + 3 ≤ g ∧ w.heap.size + 3 ≤ gs ∧ Blk wx w.heap.size 34 #[.bool x, .slice A n c] ∧ Blk wx (w.heap.size + 1) 34 #[.bool y, .slice B m d] ∧
    Blk wx (w.heap.size + 2) 34 #[.bool false, .slice none 0 0] ∧ Blk wx g 34 #[.bool (x != y), .slice (some ⟨gs, 0, none⟩) (n + m + 1) (n + m + 1)] ∧ Row .i64 3 wx gs (List.replicate (n + m + 1) 0) ∧ Below w.heap.size w wx)
  case first =>
    obtain ⟨N0, N1, N2, N3, N4⟩ := new3 w 34 34 34 #[.bool x, .slice A n c] #[.bool y, .slice B m d] #[.bool false, .slice none 0 0] 0
    have N0 := Lib.hid N0
    have N1 := Lib.hid N1
    have N2 := Lib.hid N2
    have N3 := Lib.hid N3
    have N4 := Lib.hid N4
    go_region
    all_goals
      go_wp2
      go_meet
    · exact ⟨w.heap.size + 4, w.heap.size + 3, rfl, by omega, by omega, by omega, ((N0.out.alloc _).alloc _).drew, ((N1.out.alloc _).alloc _).drew, ((N2.out.alloc _).alloc _).drew, (Blk.new' _ _ _ (by simp)).drew, (Row.alloc (Row.new' _ _ _ _ (by simp)) _).drew, ((N4.out.alloc (by simp; omega) _).alloc (by simp; omega) _).drew⟩
    · exact ⟨w.heap.size + 3, w.heap.size + 4, rfl, by omega, by omega, by omega, ((N0.out.alloc _).alloc _).drew, ((N1.out.alloc _).alloc _).drew, ((N2.out.alloc _).alloc _).drew, (Blk.alloc (Blk.new' _ _ _ (by simp)) _).drew, (Row.new' _ _ _ _ (by simp)).drew, ((N4.out.alloc (by simp; omega) _).alloc (by simp; omega) _).drew⟩
  case rest =>
    obtain ⟨g, gs, rfl, hne, hg, hgs, hb0, hb1, hb2, hb3, hrow, hbw⟩ := hcut
    clear hmk
    have p01 := hb0.at_ 1 rfl
    go_wp2
    clear p01
    go_loopw [29] (fun iv wr => ∃ (i : Nat) (L : List Int), iv = .int .i64 i ∧ i ≤ n ∧ Hid (MulI X Y (n + m + 1) i 0 (X.getD i 0) L) ∧ Blk wr w.heap.size 34 #[.bool x, .slice A n c] ∧ Blk wr (w.heap.size + 1) 34 #[.bool y, .slice B m d] ∧
      Blk wr (w.heap.size + 2) 34 #[.bool false, .slice none 0 0] ∧ Blk wr g 34 #[.bool (!(x == y)), .slice (some ⟨gs, 0, none⟩) (n + m + 1) (n + m + 1)] ∧ Row .i64 3 wr gs L ∧ Below w.heap.size w wr) (fun iv _ => n - (intOf iv).toNat)
    case atStart => exact ⟨0, _, rfl, by omega, MulI.start _ _ _, hb0, hb1, hb2, hb3, hrow, hbw⟩
    case round =>
      obtain ⟨i, L, rfl, hi, hI, hb0, hb1, hb2, hb3, hrow, hbw⟩ := hrel
      by_cases hin : i < n
      · obtain ⟨adx, cx, ex, _, _, hcx⟩ := (HS.out.below hbw).at_ i (by rw [← HN.out]; exact hin)
        injection ex with ex1 ex2 ex3
        subst ex1
        obtain ⟨xa, hxa⟩ : ∃ xa, X.getD i 0 = xa := ⟨_, rfl⟩
        rw [hxa] at hcx hI
        have bx := getD_dig DX.out i
        rw [hxa] at bx
        have HX := Lib.hid hxa
        clear hxa ex2 ex3
        have p11 := hb1.at_ 1 rfl
        go_wp2
        clear p11 hcx
        go_loopw [37] (fun jv wr => ∃ (j : Nat) (L : List Int), jv = .int .i64 j ∧ j ≤ m ∧ Hid (MulI X Y (n + m + 1) i j xa L) ∧ Blk wr w.heap.size 34 #[.bool x, .slice (some adx) n c] ∧ Blk wr (w.heap.size + 1) 34 #[.bool y, .slice B m d] ∧
          Blk wr (w.heap.size + 2) 34 #[.bool false, .slice none 0 0] ∧ Blk wr g 34 #[.bool (!(x == y)), .slice (some ⟨gs, 0, none⟩) (n + m + 1) (n + m + 1)] ∧ Row .i64 3 wr gs L ∧ Below w.heap.size w wr) (fun jv _ => m - (intOf jv).toNat)
        case atStart => exact ⟨0, _, rfl, by omega, hI, hb0, hb1, hb2, hb3, hrow, hbw⟩
        case round =>
          obtain ⟨j, L, rfl, hj, hI, hb0, hb1, hb2, hb3, hrow, hbw⟩ := hrel
          by_cases hjm : j < m
          · obtain ⟨ady, cy, ey, _, _, hcy⟩ := (HT.out.below hbw).at_ j (by rw [← HM.out]; exact hjm)
            injection ey with ey1 ey2 ey3
            subst ey1
            obtain ⟨yb, hyb⟩ : ∃ yb, Y.getD j 0 = yb := ⟨_, rfl⟩
            rw [hyb] at hcy
            have bY := getD_dig DY.out j
            rw [hyb] at bY
            have HY := Lib.hid hyb
            clear hyb ey2 ey3
            have p31 := hb3.at_ 1 rfl
            have rij := hrow.at_ (i + j) (by rw [hI.out.len]; omega)
            have fij := hrow.frozen (i + j)
            have hST := Lib.hid (hI.out.step bx bY HY.out (by omega))
            have lo := hI.out.lo (i + j)
            have hi' := hI.out.hi (i + j)
            obtain ⟨z, hz⟩ : ∃ z, L.getD (i + j) 0 = z := ⟨_, rfl⟩
            rw [hz] at rij lo hi' hST
            clear hz
            have hxy : 0 ≤ xa * yb := Int.mul_nonneg bx.1 bY.1
            have hxy2 : xa * yb ≤ 9999 * 9999 := Int.mul_le_mul (by omega) (by omega) bY.1 (by omega)
            go_wp2
            exact ⟨⟨j + 1, _, by simp, by omega, hST.out, hb0.far (by simp; omega) _, hb1.far (by simp; omega) _, hb2.far (by simp; omega) _, hb3.far (by simp; omega) _, hrow.set_ _ _, hbw.setCell (by simp; omega) _⟩, by simp only [intOf]; omega⟩
          · have hX2 := Lib.hid (hI.out.next HX.out (by have := HM.out; omega) (X.getD (i + 1) 0))
            go_wp2
            exact ⟨⟨i + 1, _, by simp, by omega, hX2.out, hb0, hb1, hb2, hb3, hrow, hbw⟩, by simp only [intOf]; omega⟩
      · have hC := Lib.hid (hI.out.carry (by have := HN.out; omega) (by omega))
        have hP := Lib.hid (mul_lt_pow DX.out DY.out HN.out.symm HM.out.symm)
        clear hI
        have p31 := hb3.at_ 1 rfl
        go_wp2
        clear p31
        go_loopw [59] (fun kv wr => ∃ (k : Nat) (L : List Int), kv = .int .i64 k ∧ k ≤ n + m + 1 ∧ Hid (CarI (val X * val Y) (n + m + 1) k L) ∧ Blk wr (w.heap.size + 2) 34 #[.bool false, .slice none 0 0] ∧ Blk wr g 34 #[.bool (!(x == y)), .slice (some ⟨gs, 0, none⟩) (n + m + 1) (n + m + 1)] ∧ Row .i64 3 wr gs L ∧ Below w.heap.size w wr) (fun kv _ => n + m + 1 - (intOf kv).toNat)
        case atStart => exact ⟨0, _, rfl, by omega, hC, hb2, hb3, hrow, hbw⟩
        case round =>
          obtain ⟨k, L, rfl, hk, hC, hb2, hb3, hrow, hbw⟩ := hrel
          have p31 := hb3.at_ 1 rfl
          have p30 := hb3.at_ 0 rfl
          by_cases hkn : k < n + m + 1
          · have rk := hrow.at_ k (by rw [hC.out.len]; omega)
            have fk := hrow.frozen k
            have lo := hC.out.lo k
            have hi2 := hC.out.hi k
            by_cases hz : 10000 ≤ L.getD k 0
            · have hl := hC.out.last hkn hP.out hz
              have rk1 := hrow.at_ (k + 1) (by rw [hC.out.len]; omega)
              have fk1 := hrow.frozen (k + 1)
              have lo1 := hC.out.lo (k + 1)
              have hi1 := hC.out.rest (k + 1) (by omega)
              have hS := hC.out.step hl
              obtain ⟨z, ez⟩ : ∃ z, L.getD k 0 = z := ⟨_, rfl⟩
              obtain ⟨z1, ez1⟩ : ∃ z, L.getD (k + 1) 0 = z := ⟨_, rfl⟩
              rw [ez] at rk lo hi2 hz hS
              rw [ez1] at rk1 lo1 hi1 hS
              rw [← Int.tdiv_eq_ediv_of_nonneg lo] at hS
              have hS' := Lib.hid hS
              have hd : 0 ≤ z.tdiv 10000 ∧ z.tdiv 10000 ≤ 20000000000 := by rw [Int.tdiv_eq_ediv_of_nonneg lo]; omega
              clear hS ez ez1
              go_wp2
              go_region
              go_wp2
              exact ⟨⟨k + 1, _, by simp, by omega, hS'.out, ((hb2.far (by simp; omega) _).far (by simp; omega) _).drew, ((hb3.far (by simp; omega) _).far (by simp; omega) _).drew, ((hrow.set_ _ _).set_ _ _).drew, ((hbw.setCell (by simp; omega) _).setCell (by simp; omega) _).drew⟩, by simp only [intOf]; omega⟩
            · have hS' := Lib.hid (hC.out.small (by omega))
              obtain ⟨z, ez⟩ : ∃ z, L.getD k 0 = z := ⟨_, rfl⟩
              rw [ez] at rk lo hi2 hz
              clear ez
              go_wp2
              exact ⟨⟨k + 1, _, by simp, by omega, hS'.out, hb2, hb3, hrow, hbw⟩, by simp only [intOf]; omega⟩
          · obtain rfl : k = n + m + 1 := by omega
            have TR := trim_c (!(x == y)) _ _ _ L wr (hrow.sl (n + m + 1) (by rw [hC.out.len]; omega)) hC.out.dig (by rw [hC.out.len]; omega)
            rw [hC.out.sum, HF.out, hC.out.len] at TR
            have TR' := Lib.hid TR
            have r20 := hb2.at_ 0 rfl
            have r21 := hb2.at_ 1 rfl
            have s20 := hb2.frozen 0
            have s21 := hb2.frozen 1
            have hsz2 := hb2.lt
            clear TR
            go_wp2_with (first | (go_at_call 29; (with_reducible refine (TR'.out).mono ?_); rintro e w9 ⟨b9, n9, rfl, hm9, hv9, hb9⟩ ; obtain ⟨hc9, hf9⟩ := bcell hb9 ; have hz9 := hb9.size))
            have t0 : w9.cell? ⟨w.heap.size + 2, 0, none⟩ = some (.bool false) := (hb9.cell hsz2).trans r20
            have t1 : w9.cell? ⟨w.heap.size + 2, 1, none⟩ = some (.slice none 0 0) := (hb9.cell (p := ⟨w.heap.size + 2, 1, none⟩) hsz2).trans r21
            exact bodyPost_ret (v := .agg #[.bool b9, .slice (some ⟨gs, 0, none⟩) n9 (n + m + 1)]) (by simp [results, Try.results15, go_sem, t0, t1]) rfl (RetZ.cell (B0 := gs) ⟨hv9, .inr ⟨_, rfl, Nat.le_refl _⟩⟩ (by omega) (by omega) t0 t1 (hbw.trans (hb9.mono hbw.size)))
end ZC
end Go.Proofs.Ytjihapnplfdmmaa
