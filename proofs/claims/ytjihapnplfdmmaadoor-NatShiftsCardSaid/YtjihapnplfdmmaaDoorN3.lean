/-
  Package nat: bits.Add32, bits.Sub32; addTo, subFrom, addTimes.
-/
import Derived.Test.YtjihapnplfdmmaaDoorN2
import Derived.Test.YtjihapnplfdmmaaDoorNBits
namespace Go.Proofs.YtjihapnplfdmmaaDoor
open Go.RowKit
set_option linter.unusedVariables false
namespace NC
open L
open Z (Nz Tz cmpv)
/-- a sum of limbs and what is carried -/
def RetC (w : World) (x y c : Int) (e : Ending) (w' : World) : Prop := ∃ z c', e = .returned (.tuple #[.int .u32 z, .int .u32 c']) ∧ 0 ≤ z ∧ z < 4294967296 ∧ 0 ≤ c' ∧ c' ≤ 1 ∧ Hid (z + 4294967296 * c' = x + y + c) ∧ w = w'
/-- a difference of limbs and what is borrowed -/
def RetB (w : World) (x y c : Int) (e : Ending) (w' : World) : Prop := ∃ z c', e = .returned (.tuple #[.int .u32 z, .int .u32 c']) ∧ 0 ≤ z ∧ z < 4294967296 ∧ 0 ≤ c' ∧ c' ≤ 1 ∧ Hid (z - 4294967296 * c' = x - y - c) ∧ w = w'
theorem Add32_c (x y c : Int) (w : World) (hx : 0 ≤ x ∧ x < 4294967296) (hy : 0 ≤ y ∧ y < 4294967296) (hc : 0 ≤ c ∧ c ≤ 1) :
    Calls Tryd.prog 61 #[.int .u32 x, .int .u32 y, .int .u32 c] w (RetC w x y c) := by
  go_enter Tryd.func61, Tryd.ntmps61
  go_wp2
  go_ret2
  exact ⟨_, _, rfl, by omega, by omega, by omega, by omega, by unfold Hid; omega, rfl⟩
theorem Sub32_c (x y c : Int) (w : World) (hx : 0 ≤ x ∧ x < 4294967296) (hy : 0 ≤ y ∧ y < 4294967296) (hc : 0 ≤ c ∧ c ≤ 1) :
    Calls Tryd.prog 66 #[.int .u32 x, .int .u32 y, .int .u32 c] w (RetB w x y c) := by
  have HB := Lib.hid (borrow_eq x y c hx hy hc)
  go_enter Tryd.func66, Tryd.ntmps66
  go_wp2
  rw [HB.out]
  go_ret2
  exact ⟨_, _, rfl, by omega, by omega, by split <;> omega, by split <;> omega, by unfold Hid; split <;> omega, rfl⟩
/-- written in place: block g from o on, n limbs; what is told -/
def RetEd (w : World) (g : Nat) (cs : Array Value) (o n : Nat) (p : List Int → Int → Prop) (e : Ending) (w' : World) : Prop :=
  ∃ M k, e = .returned (.int .u32 k) ∧ Ed w w' g cs o n M ∧ Lim M ∧ 0 ≤ k ∧ k < 4294967296 ∧ Hid (p M k)
/-- .. with no result -/
def RetEd0 (w : World) (g : Nat) (cs : Array Value) (o n : Nat) (p : List Int → Prop) (e : Ending) (w' : World) : Prop :=
  ∃ M, e = .returned (.tuple #[]) ∧ Ed w w' g cs o n M ∧ Lim M ∧ Hid (p M)
theorem addTo_c (g o n c : Nat) (cs : Array Value) (X Y : List Int) (vb : Value) (w : World) (hb : Blk w g 50 cs) (hx : Wn cs o X) (hn : X.length = n) (hY : SlA .u32 w vb Y g) (LX : Lim X) (LY : Lim Y)
    (hlen : Y.length ≤ n) (hN : n ≤ 1000000000) (hc : n ≤ c) :
    Calls Tryd.prog 50 #[.slice (some ⟨g, o, none⟩) n c, vb] w (RetEd w g cs o n fun M k => lv M + 4294967296 ^ n * k = lv X + lv Y ∧ k ≤ 1) := by
  have E0 := Lib.hid (Ed.start hb hx hn)
  have hY' := hY
  obtain ⟨B, d, rfl, hd, _⟩ := hY'
  have HY := Lib.hid hY
  obtain ⟨m, hm⟩ : ∃ m, m = Y.length := ⟨_, rfl⟩
  rw [← hm] at hd hlen HY ⊢
  have LY' := Lib.hid LY
  have HM := Lib.hid hm
  have HN := Lib.hid hn
  have I0 := Lib.hid (AddI.start Y LX)
  clear hY hb hx LX LY hm hn
  go_enter Tryd.func50, Tryd.ntmps50
  go_wp2
  go_loopw [11, 5] (fun iv cv wr => ∃ (i : Nat) (M : List Int) (k : Int), iv = .int .i64 i ∧ i ≤ m ∧ cv = .int .u32 k ∧ Hid (AddI X Y i M k) ∧ Hid (Ed w wr g cs o n M)) (fun iv _ _ => m - (intOf iv).toNat)
  case atStart => exact ⟨0, X, 0, rfl, by omega, rfl, I0, E0⟩
  case round =>
    obtain ⟨i, M, k, rfl, hi, rfl, hI, hE⟩ := hrel
    have ik := hI.out.c0
    have ik1 := hI.out.c1
    by_cases him : i < m
    · obtain ⟨ady, cy, ey, hcy, hyc⟩ := (HY.out.grown hE.out.grown).at_ i (by rw [← HM.out]; exact him)
      injection ey with ey1 ey2 ey3
      subst ey1
      clear ey2 ey3 hcy
      have hxc := hE.out.cell i (by omega)
      have bx := hI.out.lim.at_ i
      have bY := LY'.out.at_ i
      have fx := hE.out.frozen (o + i)
      obtain ⟨x, ex⟩ : ∃ x, M.getD i 0 = x := ⟨_, rfl⟩
      obtain ⟨y, ey⟩ : ∃ y, Y.getD i 0 = y := ⟨_, rfl⟩
      rw [ex] at hxc bx
      rw [ey] at hyc bY
      have EX := Lib.hid ex
      have EY := Lib.hid ey
      have A := Lib.hid (Add32_c x y k wr bx bY ⟨ik, ik1⟩)
      clear ex ey
      go_wp2_with (first | (go_at_call 61; (with_reducible refine (A.out).mono ?_); rintro e w2 ⟨z, k2, rfl, hz0, hz1, hk0, hk1, hs, rfl⟩))
      have hI2 := hI.out.step (by rw [HN.out]; omega) hz0 hz1 hk0 hk1 (by rw [EX.out, EY.out]; exact hs.out)
      exact ⟨⟨i + 1, _, k2, by simp, by omega, rfl, hI2, hE.out.set_ i (by omega) z⟩, by simp only [intOf]; omega⟩
    · obtain rfl : m = i := by omega
      go_wp2
      go_loopw [8, 5] (fun iv cv wr => ∃ (i : Nat) (M : List Int) (k : Int), iv = .int .i64 i ∧ m ≤ i ∧ i ≤ n ∧ cv = .int .u32 k ∧ Hid (AddI X Y i M k) ∧ Hid (Ed w wr g cs o n M)) (fun iv _ _ => n - (intOf iv).toNat)
      case atStart => exact ⟨m, M, k, rfl, Nat.le_refl _, hlen, rfl, hI, hE⟩
      case round =>
        obtain ⟨i, M, k, rfl, hmi, hi, rfl, hI, hE⟩ := hrel
        have ik := hI.out.c0
        have ik1 := hI.out.c1
        by_cases hin : i < n
        · by_cases hk : 0 < k
          · have e1 : decide (0 < k) = true := by simp [hk]
            have hxc := hE.out.cell i (by omega)
            have bx := hI.out.lim.at_ i
            have fx := hE.out.frozen (o + i)
            obtain ⟨x, ex⟩ : ∃ x, M.getD i 0 = x := ⟨_, rfl⟩
            rw [ex] at hxc bx
            have EX := Lib.hid ex
            have EY := Lib.hid (Z.getD_out (L := Y) (k := i) (by rw [← HM.out]; exact hmi))
            have A := Lib.hid (Add32_c x 0 k wr bx (by omega) ⟨ik, ik1⟩)
            clear ex hk
            go_wp2_with (first | (go_at_call 61; (with_reducible refine (A.out).mono ?_); rintro e w2 ⟨z, k2, rfl, hz0, hz1, hk0, hk1, hs, rfl⟩))
            have hI2 := hI.out.step (by rw [HN.out]; omega) hz0 hz1 hk0 hk1 (by rw [EX.out, EY.out]; exact hs.out)
            exact ⟨⟨i + 1, _, k2, by simp, by omega, by omega, rfl, hI2, hE.out.set_ i (by omega) z⟩, by simp only [intOf]; omega⟩
          · obtain rfl : k = 0 := by omega
            have hD := Lib.hid (hI.out.done (by rw [← HM.out]; exact hmi) (.inr rfl))
            go_wp2
            go_ret
            exact ⟨M, 0, rfl, hE.out, hI.out.lim, by omega, by omega, by rw [← HN.out]; exact hD.out, by omega⟩
        · obtain rfl : i = n := by omega
          have hD := Lib.hid (hI.out.done (by rw [← HM.out]; exact hmi) (.inl HN.out.symm))
          go_wp2
          go_ret
          exact ⟨M, k, rfl, hE.out, hI.out.lim, by omega, by omega, by rw [← HN.out]; exact hD.out, by omega⟩
theorem subFrom_c (g o n c : Nat) (cs : Array Value) (X Y : List Int) (vb : Value) (w : World) (hb : Blk w g 50 cs) (hx : Wn cs o X) (hn : X.length = n) (hY : SlA .u32 w vb Y g) (LX : Lim X) (LY : Lim Y)
    (hlen : Y.length ≤ n) (hN : n ≤ 1000000000) (hc : n ≤ c) (hle : lv Y ≤ lv X) :
    Calls Tryd.prog 54 #[.slice (some ⟨g, o, none⟩) n c, vb] w (RetEd0 w g cs o n fun M => lv M = lv X - lv Y) := by
  have E0 := Lib.hid (Ed.start hb hx hn)
  have hY' := hY
  obtain ⟨B, d, rfl, hd, _⟩ := hY'
  have HY := Lib.hid hY
  obtain ⟨m, hm⟩ : ∃ m, m = Y.length := ⟨_, rfl⟩
  rw [← hm] at hd hlen HY ⊢
  have LY' := Lib.hid LY
  have HM := Lib.hid hm
  have HN := Lib.hid hn
  have I0 := Lib.hid (SubI.start Y LX)
  have LX' := Lib.hid LX
  have HLE := Lib.hid hle
  clear hY hb hx LX LY hm hn hle
  go_enter Tryd.func54, Tryd.ntmps54
  go_wp2
  go_loopw [10, 4] (fun iv cv wr => ∃ (i : Nat) (M : List Int) (k : Int), iv = .int .i64 i ∧ i ≤ m ∧ cv = .int .u32 k ∧ Hid (SubI X Y i M k) ∧ Hid (Ed w wr g cs o n M)) (fun iv _ _ => m - (intOf iv).toNat)
  case atStart => exact ⟨0, X, 0, rfl, by omega, rfl, I0, E0⟩
  case round =>
    obtain ⟨i, M, k, rfl, hi, rfl, hI, hE⟩ := hrel
    have ik := hI.out.c0
    have ik1 := hI.out.c1
    by_cases him : i < m
    · obtain ⟨ady, cy, ey, hcy, hyc⟩ := (HY.out.grown hE.out.grown).at_ i (by rw [← HM.out]; exact him)
      injection ey with ey1 ey2 ey3
      subst ey1
      clear ey2 ey3 hcy
      have hxc := hE.out.cell i (by omega)
      have bx := hI.out.lim.at_ i
      have bY := LY'.out.at_ i
      have fx := hE.out.frozen (o + i)
      obtain ⟨x, ex⟩ : ∃ x, M.getD i 0 = x := ⟨_, rfl⟩
      obtain ⟨y, ey⟩ : ∃ y, Y.getD i 0 = y := ⟨_, rfl⟩
      rw [ex] at hxc bx
      rw [ey] at hyc bY
      have EX := Lib.hid ex
      have EY := Lib.hid ey
      have A := Lib.hid (Sub32_c x y k wr bx bY ⟨ik, ik1⟩)
      clear ex ey
      go_wp2_with (first | (go_at_call 66; (with_reducible refine (A.out).mono ?_); rintro e w2 ⟨z, k2, rfl, hz0, hz1, hk0, hk1, hs, rfl⟩))
      have hI2 := hI.out.step (by rw [HN.out]; omega) hz0 hz1 hk0 hk1 (by rw [EX.out, EY.out]; exact hs.out)
      exact ⟨⟨i + 1, _, k2, by simp, by omega, rfl, hI2, hE.out.set_ i (by omega) z⟩, by simp only [intOf]; omega⟩
    · obtain rfl : m = i := by omega
      go_wp2
      go_loopw [7, 4] (fun iv cv wr => ∃ (i : Nat) (M : List Int) (k : Int), iv = .int .i64 i ∧ m ≤ i ∧ i ≤ n ∧ cv = .int .u32 k ∧ Hid (SubI X Y i M k) ∧ Hid (Ed w wr g cs o n M)) (fun iv _ _ => n - (intOf iv).toNat)
      case atStart => exact ⟨m, M, k, rfl, Nat.le_refl _, hlen, rfl, hI, hE⟩
      case round =>
        obtain ⟨i, M, k, rfl, hmi, hi, rfl, hI, hE⟩ := hrel
        have ik := hI.out.c0
        have ik1 := hI.out.c1
        by_cases hin : i < n
        · by_cases hk : 0 < k
          · have e1 : decide (0 < k) = true := by simp [hk]
            have hxc := hE.out.cell i (by omega)
            have bx := hI.out.lim.at_ i
            have fx := hE.out.frozen (o + i)
            obtain ⟨x, ex⟩ : ∃ x, M.getD i 0 = x := ⟨_, rfl⟩
            rw [ex] at hxc bx
            have EX := Lib.hid ex
            have EY := Lib.hid (Z.getD_out (L := Y) (k := i) (by rw [← HM.out]; exact hmi))
            have A := Lib.hid (Sub32_c x 0 k wr bx (by omega) ⟨ik, ik1⟩)
            clear ex hk
            go_wp2_with (first | (go_at_call 66; (with_reducible refine (A.out).mono ?_); rintro e w2 ⟨z, k2, rfl, hz0, hz1, hk0, hk1, hs, rfl⟩))
            have hI2 := hI.out.step (by rw [HN.out]; omega) hz0 hz1 hk0 hk1 (by rw [EX.out, EY.out]; exact hs.out)
            exact ⟨⟨i + 1, _, k2, by simp, by omega, by omega, rfl, hI2, hE.out.set_ i (by omega) z⟩, by simp only [intOf]; omega⟩
          · obtain rfl : k = 0 := by omega
            have hD := Lib.hid (hI.out.done LX'.out (by rw [← HM.out]; exact hmi) (.inr rfl) HLE.out)
            go_wp2
            go_end0
            exact ⟨M, rfl, hE.out, hI.out.lim, hD⟩
        · obtain rfl : i = n := by omega
          have hD := Lib.hid (hI.out.done LX'.out (by rw [← HM.out]; exact hmi) (.inl HN.out.symm) HLE.out)
          go_wp2
          go_end0
          exact ⟨M, rfl, hE.out, hI.out.lim, hD⟩
theorem addTimes_c (g o n c : Nat) (cs : Array Value) (X Y : List Int) (vb : Value) (q : Int) (w : World) (hb : Blk w g 50 cs) (hx : Wn cs o X) (hn : X.length = n) (hY : SlA .u32 w vb Y g) (LX : Lim X) (LY : Lim Y)
    (hlen : Y.length ≤ n) (hN : n ≤ 1000000000) (hc : n ≤ c) (hq : 0 ≤ q ∧ q < 4294967296) :
    Calls Tryd.prog 51 #[.slice (some ⟨g, o, none⟩) n c, vb, .int .u32 q] w (RetEd w g cs o n fun M k => lv M + 4294967296 ^ Y.length * k = lv X + q * lv Y ∧ ∀ j, Y.length ≤ j → M.getD j 0 = X.getD j 0) := by
  have E0 := Lib.hid (Ed.start hb hx hn)
  have hY' := hY
  obtain ⟨B, d, rfl, hd, _⟩ := hY'
  have HY := Lib.hid hY
  obtain ⟨m, hm⟩ : ∃ m, m = Y.length := ⟨_, rfl⟩
  rw [← hm] at hd hlen HY ⊢
  have LY' := Lib.hid LY
  have HM := Lib.hid hm
  have HN := Lib.hid hn
  have I0 := Lib.hid (TimI.start 1 Y q LX)
  clear hY hb hx LX LY hm hn
  go_enter Tryd.func51, Tryd.ntmps51
  go_wp2
  go_loopw [12, 7] (fun iv cv wr => ∃ (i : Nat) (M : List Int) (k : Int), iv = .int .i64 i ∧ i ≤ m ∧ cv = .int .u64 k ∧ k < 4294967296 ∧ Hid (TimI 1 X Y q i M k) ∧ Hid (Ed w wr g cs o n M)) (fun iv _ _ => m - (intOf iv).toNat)
  case atStart => exact ⟨0, X, 0, rfl, by omega, rfl, by omega, I0, E0⟩
  case round =>
    obtain ⟨i, M, k, rfl, hi, rfl, hk, hI, hE⟩ := hrel
    have ik := hI.out.c0
    by_cases him : i < m
    · obtain ⟨ady, cy, ey, hcy, hyc⟩ := (HY.out.grown hE.out.grown).at_ i (by rw [← HM.out]; exact him)
      injection ey with ey1 ey2 ey3
      subst ey1
      clear ey2 ey3 hcy
      have hxc := hE.out.cell i (by omega)
      have bx := hI.out.lim.at_ i
      have bY := LY'.out.at_ i
      have fx := hE.out.frozen (o + i)
      obtain ⟨x, ex⟩ : ∃ x, M.getD i 0 = x := ⟨_, rfl⟩
      obtain ⟨y, ey⟩ : ∃ y, Y.getD i 0 = y := ⟨_, rfl⟩
      rw [ex] at hxc bx
      rw [ey] at hyc bY
      have hxy : 0 ≤ y * q := Int.mul_nonneg bY.1 hq.1
      have hxy2 : y * q ≤ 4294967295 * 4294967295 := Int.mul_le_mul (by omega) (by omega) hq.1 (by omega)
      have hS : ∀ z c', 0 ≤ z → z < 4294967296 → 0 ≤ c' → c' ≤ 4294967296 → z + 4294967296 * c' = x + y * q + k → TimI 1 X Y q (i + 1) (M.set i z) c' := fun z c' h0 h1 h2 h3 h4 =>
        hI.out.step (by rw [HN.out]; omega) h0 h1 h2 h3 (by rw [ex, ey]; omega)
      have HS := Lib.hid hS
      have hES := Lib.hid (fun z => hE.out.set_ i (by omega) z)
      clear ex ey hS
      obtain ⟨p, hp⟩ : ∃ p, y * q = p := ⟨_, rfl⟩
      rw [hp] at hxy hxy2 HS
      go_wp2
      exact ⟨⟨i + 1, _, _, by simp, by omega, rfl, by omega, HS.out _ _ (by omega) (by omega) (by omega) (by omega) (by omega), hES.out _⟩, by simp only [intOf]; omega⟩
    · obtain rfl : m = i := by omega
      have hD := Lib.hid (hI.out.done (by rw [← HM.out]; exact Nat.le_refl _))
      have hR := Lib.hid hI.out.rest
      go_wp2
      go_ret
      exact ⟨M, k, rfl, hE.out, hI.out.lim, by omega, by omega, by have := hD.out; omega, hR.out⟩
end NC
end Go.Proofs.YtjihapnplfdmmaaDoor
