/-
  Texts glued together for a claim: X8 X9 X11 X12.
-/
import Derived.Test.YtejglcpiihkenaaDoorE18
import Derived.Test.YtejglcpiihkenaaDoorE14
import Derived.Test.YtejglcpiihkenaaDoorE11
/-
  Package exact, pure: what the laws ask of TwoSum, FastSum, TwoProd and Split.
-/
namespace Go.Proofs.YtejglcpiihkenaaDoor
set_option linter.unusedVariables false
set_option linter.unusedSimpArgs false
open Go.RowKit
set_option linter.unusedVariables false
set_option linter.unusedSimpArgs false
namespace XC
open L NC NK DC RC SC PC QC IC
open Z (cmpv)
/-- a power of two, as a Dyad -/
def pw (u : Int) : Dy := ⟨0, 1, u⟩
theorem pw_ok {u : Int} (h : -10000 ≤ u ∧ u ≤ 10000) : Ok (pw u) := by
  have h1 : (1 : Int) < 4294967296 ^ 400 := by
    have := pow_mono (a := 1) (b := 400) (by decide)
    rw [Int.pow_one] at this
    omega
  refine ⟨rfl, .inr (by show (1 : Int) % 2 = 1; decide), ?_⟩
  show inb 1 u
  unfold inb
  exact ⟨h1, by omega, h.1, h.2⟩
theorem pw_S (u : Int) : S (pw u) = sc 1 u := rfl
/-- the sum of two is that of two others -/
theorem both_p {a b c d : Dy} (ga : Fit a 1) (gb : Fit b 1) (gc : Fit c 1) (gd : Fit d 1) (h : S a + S b = S c + S d) : (DC.Add a b).e = 0 ∧ (DC.Add c d).e = 0 ∧ (DC.Add a b).d = (DC.Add c d).d ∧ Ok (DC.Add a b).d := by
  obtain ⟨h1, h2, h3⟩ := add_fit ga gb (by omega)
  obtain ⟨k1, k2, k3⟩ := add_fit gc gd (by omega)
  exact ⟨h1, k1, S_inj h2.ok k2.ok (by rw [h3, k3, h]), h2.ok⟩
theorem fit0 : Fit dz 1 := by
  have := fit_zero
  refine ⟨this.ok, this.x, ?_, ?_⟩
  · have := this.hi; have := sc_one_pos 1024; omega
  · have := this.lo; have := sc_one_pos 1024; omega
theorem sum_law {x y : Int} (fx : fi x) (fy : fi y) (hx : F.exq x < 1923) (hy : F.exq y < 1923) :
    ∃ s r, T2 x y = (s, r, 0) ∧ fi s ∧ fi r ∧ (DC.Add (OfD x).d (OfD y).d).e = 0 ∧ (DC.Add (OfD s).d (OfD r).d).e = 0 ∧ (DC.Add (OfD x).d (OfD y).d).d = (DC.Add (OfD s).d (OfD r).d).d ∧ Ok (DC.Add (OfD x).d (OfD y).d).d ∧
      ¬ Cmpn (RC.ab (OfD r).d) (pw (F.ulp s - 1)) > 0 ∧ Cmpe (RC.ab (OfD r).d) (pw (F.ulp s - 1)) = 0 ∧ Ok (pw (F.ulp s - 1)) := by
  obtain ⟨s, r, X, Y, N, e, fs, fr, vx, vy, vN, vr, nr, -, -⟩ := two_p fx fy hx hy
  obtain ⟨b1, b2, b3, b4⟩ := both_p (of_fit fx).2 (of_fit fy).2 (of_fit fs).2 (of_fit fr).2 (show val x + val y = val s + val r by rw [vx, vy, vN, vr, ← Int.add_mul, ← Int.add_mul]; congr 1; omega)
  have hb := ulp_bd fs
  have op : Ok (pw (F.ulp s - 1)) := pw_ok (by omega)
  have orr := ab_ok (of_fit fr).2.ok
  refine ⟨s, r, e, fs, fr, b1, b2, b3, b4, ?_, ?_, op⟩
  · rw [cmpn_S orr op, S_ab, pw_S]
    have hp := half_p fs vN nr
    have e2 : sc 1 (F.ulp s) = 2 * sc 1 (F.ulp s - 1) := by
      have := sc_two 1 (F.ulp s - 1) (by omega)
      rw [sc_mul1, show F.ulp s - 1 + ((1 : Nat) : Int) = F.ulp s by omega] at this
      rw [← this]; rfl
    have eA : A (OfD r).d = (X + Y - N).natAbs * e0 := by
      have a := A_abs (OfD r).d
      have vr : S (OfD r).d = (X + Y - N) * e0 := vr
      rw [vr] at a
      have h0 := e0_pos
      rcases Int.lt_or_le (X + Y - N) 0 with q | q
      · rw [(a.2 (Int.mul_neg_of_neg_of_pos q h0)).1, show ((X + Y - N).natAbs : Int) = -(X + Y - N) by omega, Int.neg_mul]
      · rw [(a.1 (Int.mul_nonneg q (Int.le_of_lt h0))).1, show ((X + Y - N).natAbs : Int) = X + Y - N by omega]
    rw [eA]
    generalize ((X + Y - N).natAbs : Int) * e0 = z at *
    rcases IC.cmpv_3 z (sc 1 (F.ulp s - 1)) with ⟨q, _⟩ | ⟨q, _⟩ | ⟨q, _⟩ <;> omega
  · unfold Cmpe
    exact ee0.2 ⟨orr.1, rfl⟩
/-- an error: all else is 0 -/
theorem T2_err {x y : Int} (h : (T2 x y).2.2 ≠ 0) : T2 x y = (0, 0, (T2 x y).2.2) := by
  unfold T2 at h ⊢
  split
  · rfl
  · rename_i q
    rw [if_neg q] at h
    split
    · rfl
    · rename_i q2
      rw [if_neg q2] at h
      exact absurd rfl h
theorem T1_err {x y : Int} (h : (T1 x y).2.2 ≠ 0) : T1 x y = (0, 0, (T1 x y).2.2) := by
  unfold T1 at h ⊢
  split
  · rfl
  · rename_i q
    rw [if_neg q] at h
    split
    · rfl
    · rename_i q2
      rw [if_neg q2] at h
      exact absurd rfl h
theorem P2_err {x y : Int} (h : (P2 x y).2.2 ≠ 0) : P2 x y = (0, 0, (P2 x y).2.2) := by
  unfold P2 at h ⊢
  split
  · rfl
  · rename_i q
    rw [if_neg q] at h
    split
    · rfl
    · rename_i q2
      rw [if_neg q2] at h
      exact absurd rfl h
theorem T2_ok {x y : Int} (hx : 0 ≤ x ∧ x ≤ 18446744073709551615) (hy : 0 ≤ y ∧ y ≤ 18446744073709551615) (h : (T2 x y).2.2 = 0) : fi x ∧ fi y := by
  unfold T2 at h
  split at h
  · cases h
  · rename_i q; exact ⟨⟨hx.1, hx.2, fun k => q (.inl k)⟩, ⟨hy.1, hy.2, fun k => q (.inr k)⟩⟩
theorem T1_ok {x y : Int} (hx : 0 ≤ x ∧ x ≤ 18446744073709551615) (hy : 0 ≤ y ∧ y ≤ 18446744073709551615) (h : (T1 x y).2.2 = 0) : fi x ∧ fi y := by
  unfold T1 at h
  split at h
  · cases h
  · rename_i q; exact ⟨⟨hx.1, hx.2, fun k => q (.inl k)⟩, ⟨hy.1, hy.2, fun k => q (.inr k)⟩⟩
theorem P2_ok {x y : Int} (hx : 0 ≤ x ∧ x ≤ 18446744073709551615) (hy : 0 ≤ y ∧ y ≤ 18446744073709551615) (h : (P2 x y).2.2 = 0) : fi x ∧ fi y ∧ fi (MT x y 0).1 := by
  have b := MT_bd 0 hx hy
  unfold P2 at h
  split at h
  · cases h
  · rename_i q
    split at h
    · cases h
    · rename_i q2; exact ⟨⟨hx.1, hx.2, fun k => q (.inl k)⟩, ⟨hy.1, hy.2, fun k => q (.inr k)⟩, ⟨b.1, b.2, q2⟩⟩
theorem fast_law {x y : Int} (fx : fi x) (fy : fi y) (hx : F.exq x < 1923) (hy : F.exq y < 1923) (hxy : F.abs y ≤ F.abs x) :
    ∃ s r q, T1 x y = (s, r, 0) ∧ T2 x y = (s, q, 0) ∧ fi s ∧ fi r ∧ (q = r ∨ (F.cls q = 1 ∧ F.cls r = 1)) ∧ (DC.Add (OfD x).d (OfD y).d).e = 0 ∧ (DC.Add (OfD s).d (OfD r).d).e = 0 ∧ (DC.Add (OfD x).d (OfD y).d).d = (DC.Add (OfD s).d (OfD r).d).d ∧ Ok (DC.Add (OfD x).d (OfD y).d).d := by
  obtain ⟨s, r, X, Y, N, e, fs, fr, vx, vy, vN, vr⟩ := fast_p fx fy hx hy hxy
  obtain ⟨s', q, X', Y', N', e', fs', fq, vx', vy', vN', vq, nr, -, -⟩ := two_p fx fy hx hy
  have es : s' = s := by
    unfold T1 at e
    unfold T2 at e'
    have n1 : ¬ (F.exq x = 2047 ∨ F.exq y = 2047) := by rintro (k | k); exact fx.2.2 k; exact fy.2.2 k
    rw [if_neg n1] at e e'
    split at e
    · cases e
    · rename_i k
      rw [if_neg k] at e'
      exact (congrArg Prod.fst e').symm.trans (congrArg Prod.fst e)
  subst es
  have c := fun {a b : Int} (h : a * e0 = b * e0) => Int.eq_of_mul_eq_mul_right (Int.ne_of_gt e0_pos) h
  have e1 := c (vx.symm.trans vx')
  have e2 := c (vy.symm.trans vy')
  have e3 := c (vN.symm.trans vN')
  subst e1 e2 e3
  obtain ⟨b1, b2, b3, b4⟩ := both_p (of_fit fx).2 (of_fit fy).2 (of_fit fs).2 (of_fit fr).2 (show val x + val y = val s' + val r by rw [vx, vy, vN, vr, ← Int.add_mul, ← Int.add_mul]; congr 1; omega)
  exact ⟨s', r, q, e, e', fs, fr, num_same fq fr (by rw [vq, vr]), b1, b2, b3, b4⟩
theorem prod_law {x y : Int} (h : (P2 x y).2.2 = 0) (hx : 0 ≤ x ∧ x ≤ 18446744073709551615) (hy : 0 ≤ y ∧ y ≤ 18446744073709551615) (hu : -1074 ≤ F.ulp x + F.ulp y) :
    ∃ p r, P2 x y = (p, r, 0) ∧ fi p ∧ fi r ∧ (DC.Mul (OfD x).d (OfD y).d).e = 0 ∧ (DC.Add (DC.Mul (OfD x).d (OfD y).d).d dz).e = 0 ∧ (DC.Add (OfD p).d (OfD r).d).e = 0 ∧ (DC.Add (DC.Mul (OfD x).d (OfD y).d).d dz).d = (DC.Add (OfD p).d (OfD r).d).d ∧ Ok (DC.Add (OfD p).d (OfD r).d).d := by
  obtain ⟨fx, fy, fp⟩ := P2_ok hx hy h
  obtain ⟨r, e1, fr, ev⟩ := prod_x fx fy hu fp
  have e2 : P2 x y = ((MT x y 0).1, r, 0) := by
    unfold P2
    rw [if_neg (by rintro (k | k); exact fx.2.2 k; exact fy.2.2 k), if_neg fp.2.2, e1]
  obtain ⟨K, hK⟩ : ∃ K : Nat, K = 60000 := ⟨_, rfl⟩
  have pd := pd_p fx fy hK
  have ePD : PD x y = DC.Mul (OfD x).d (OfD y).d := by
    unfold PD
    rw [if_neg (by rintro (k | k); exact fx.2.2 k; exact fy.2.2 k)]
  rw [ePD] at pd ev
  obtain ⟨h1, h2, h3⟩ := add_fitP pd.2.1 (fitP_zero) (by omega)
  obtain ⟨k1, k2, k3⟩ := add_fit (of_fit fp).2 (of_fit fr).2 (by omega)
  refine ⟨(MT x y 0).1, r, e2, fp, fr, pd.1, h1, k1, S_inj h2.ok k2.ok ?_, k2.ok⟩
  rw [h3, k3, show S dz = 0 from sc_zero.2 rfl, ← ev]
  unfold val
  omega
end XC
end Go.Proofs.YtejglcpiihkenaaDoor

/-
  Package exact, the laws' helpers: far, bothSame.
-/
namespace Go.Proofs.YtejglcpiihkenaaDoor
set_option linter.unusedVariables false
set_option linter.unusedSimpArgs false
open Go.RowKit
set_option linter.unusedVariables false
set_option linter.unusedSimpArgs false
namespace XC
open L NC NK DC RC SC PC QC IC
open Z (cmpv)
theorem far_exp {x : Int} (h0 : 0 ≤ x) (h1 : x ≤ 18446744073709551615) : x * 2 % 18446744073709551616 / 9007199254740992 = F.exq x := by
  unfold F.exq; omega
/-- one is not below 2^900 -/
def fara (L : List Int) : Bool := L.any fun x => decide (1923 ≤ F.exq x)
theorem w64x (z : Int) : IntKind.u64.wrap z = z % 18446744073709551616 := by first | rfl | (unfold IntKind.wrap; simp [IntKind.bits, IntKind.signed])
theorem far_c (v : Value) (l : List Int) (w : World) (hs : Sl .u64 w v l) (hu : u64s l) (hl : l.length ≤ 1000000) :
    Calls Tryd.prog 11 #[v] w fun e w' => e = .returned (.bool (fara l)) ∧ w = w' := by
  obtain ⟨A, c, rfl, hc⟩ := hs.form
  have HS := Lib.hid hs
  have HU := Lib.hid hu
  obtain ⟨n, en⟩ : ∃ n, l.length = n := ⟨_, rfl⟩
  obtain ⟨r, hr⟩ : ∃ r, r = fara l := ⟨_, rfl⟩
  rw [← hr]
  rw [en] at hc hl HS ⊢
  have EN := Lib.hid en
  have HR := Lib.hid hr
  clear hs hu en hr
  go_enter Tryd.func11, Tryd.ntmps11
  go_wp2
  go_loop [7] (fun i => ∃ k : Nat, k ≤ n ∧ i = .int .i64 k ∧ Hid (fara (l.take k) = false)) (fun i => n - (intOf i).toNat)
  case atStart => exact ⟨0, by omega, rfl, by show _ = _; simp [fara]⟩
  case round =>
    obtain ⟨k, hk, rfl, hz⟩ := hrel
    by_cases hkx : k < n
    · obtain ⟨ad, c', e, hc', hb, hcell⟩ := HS.out.at_ k (by rw [EN.out]; exact hkx)
      injection e with e1 e2 e3
      subst e1
      clear e2 e3 hc' c' hb
      obtain ⟨q, hq⟩ : ∃ q, l.getD k 0 = q := ⟨_, rfl⟩
      have hm : q ∈ l := by
        rw [← hq, List.getD_eq_getElem?_getD, List.getElem?_eq_getElem (by rw [EN.out]; exact hkx)]
        exact List.getElem_mem _
      have bq := HU.out q hm
      rw [hq] at hcell
      have hx := far_exp bq.1 bq.2
      have ht : fara (l.take (k + 1)) = (fara (l.take k) || decide (1923 ≤ F.exq q)) := by
        unfold fara
        rw [List.take_add_one, List.any_append, List.getElem?_eq_getElem (by rw [EN.out]; exact hkx)]
        have : l[k]'(by rw [EN.out]; exact hkx) = q := by
          rw [← hq, List.getD_eq_getElem?_getD, List.getElem?_eq_getElem (by rw [EN.out]; exact hkx)]; rfl
        simp [this]
      rw [hz.out, Bool.false_or] at ht
      have HT := Lib.hid ht
      have E := F.exq_bd q
      have hw : IntKind.u64.wrap (q * 2) = q * 2 % 18446744073709551616 := w64x _
      clear hq ht
      by_cases h0 : 1923 ≤ F.exq q
      · have hr2 : Hid (r = true) := by
          show _ = _
          rw [HR.out]
          unfold fara
          rw [List.any_eq_true]
          exact ⟨q, hm, decide_eq_true h0⟩
        obtain ⟨x, hx2⟩ : ∃ x, F.exq q = x := ⟨_, rfl⟩
        rw [hx2] at hx h0 E
        clear hx2 HT hm
        go_wp2
        go_ret
        exact ⟨by rw [hr2.out]; rfl, rfl⟩
      · have HZ2 : Hid (fara (l.take (k + 1)) = false) := by show _ = _; rw [HT.out, decide_eq_false h0]
        obtain ⟨x, hx2⟩ : ∃ x, F.exq q = x := ⟨_, rfl⟩
        rw [hx2] at hx h0 E
        clear hx2 HT hm
        go_wp2
        go_round
        case rel => exact ⟨k + 1, by omega, by simp, HZ2.out⟩
        case measure => simp [intOf]; omega
    · obtain rfl : n = k := by omega
      have hr2 : Hid (r = false) := by
        show _ = _
        rw [HR.out, ← hz.out, List.take_of_length_le (Nat.le_of_eq EN.out)]
      go_wp2
      go_ret
      exact ⟨by rw [hr2.out]; rfl, rfl⟩
theorem far2 (W : World) (x y : Int) (hx : 0 ≤ x ∧ x ≤ 18446744073709551615) (hy : 0 ≤ y ∧ y ≤ 18446744073709551615) (o : Bool) (ho : fara [x, y] = o) :
    Calls Tryd.prog 11 #[.slice (some ⟨W.heap.size, 0, none⟩) 2 2] (W.alloc (.cells #[.int .u64 x, .int .u64 y] 22)) fun e w' => e = .returned (.bool o) ∧ W.alloc (.cells #[.int .u64 x, .int .u64 y] 22) = w' := by
  have hs : Sl .u64 (W.alloc (.cells #[.int .u64 x, .int .u64 y] 22)) (.slice (some ⟨W.heap.size, 0, none⟩) 2 2) [x, y] := Row.sl (L := [x, y]) (Blk.new W 22 #[.int .u64 x, .int .u64 y]) 2 (by simp)
  rw [← ho]
  exact far_c _ [x, y] _ hs (u2 hx hy) (by simp)
/-- four boxes made at a call -/
theorem box4 (w : World) (ba bb bc bd : Bool) (Aa Ab Ac Ad : Option Addr) (na ca nb cb nc cc nd cd : Nat) (xa xb xc xd : Int) :
    ∃ W0, (((w.alloc (.cells #[.bool ba, .slice Aa na ca, .int .i64 xa] 28)).alloc (.cells #[.bool bb, .slice Ab nb cb, .int .i64 xb] 28)).alloc (.cells #[.bool bc, .slice Ac nc cc, .int .i64 xc] 28)).alloc (.cells #[.bool bd, .slice Ad nd cd, .int .i64 xd] 28) = W0 ∧ Below w.heap.size w W0 ∧
    BX W0 w.heap.size ba Aa na ca xa ∧ BX W0 (w.heap.size + 1) bb Ab nb cb xb ∧ BX W0 (w.heap.size + 2) bc Ac nc cc xc ∧ BX W0 (w.heap.size + 3) bd Ad nd cd xd := by
  have A1 := al1 w (.cells #[.bool ba, .slice Aa na ca, .int .i64 xa] 28)
  have X1 := BX.new w ba Aa na ca xa
  obtain ⟨w1, hw1⟩ : ∃ w1, w.alloc (.cells #[.bool ba, .slice Aa na ca, .int .i64 xa] 28) = w1 := ⟨_, rfl⟩
  have z1 : w1.heap.size = w.heap.size + 1 := by rw [← hw1]; simp
  rw [hw1] at A1 X1 ⊢
  have A2 := al1 w1 (.cells #[.bool bb, .slice Ab nb cb, .int .i64 xb] 28)
  have X2 := BX.new w1 bb Ab nb cb xb
  obtain ⟨w2, hw2⟩ : ∃ w2, w1.alloc (.cells #[.bool bb, .slice Ab nb cb, .int .i64 xb] 28) = w2 := ⟨_, rfl⟩
  have z2 : w2.heap.size = w.heap.size + 2 := by rw [← hw2]; simp; omega
  rw [hw2] at A2 X2 ⊢
  have A3 := al1 w2 (.cells #[.bool bc, .slice Ac nc cc, .int .i64 xc] 28)
  have X3 := BX.new w2 bc Ac nc cc xc
  obtain ⟨w3, hw3⟩ : ∃ w3, w2.alloc (.cells #[.bool bc, .slice Ac nc cc, .int .i64 xc] 28) = w3 := ⟨_, rfl⟩
  have z3 : w3.heap.size = w.heap.size + 3 := by rw [← hw3]; simp; omega
  rw [hw3] at A3 X3 ⊢
  have A4 := al1 w3 (.cells #[.bool bd, .slice Ad nd cd, .int .i64 xd] 28)
  have X4 := BX.new w3 bd Ad nd cd xd
  obtain ⟨w4, hw4⟩ : ∃ w4, w3.alloc (.cells #[.bool bd, .slice Ad nd cd, .int .i64 xd] 28) = w4 := ⟨_, rfl⟩
  rw [hw4] at A4 X4 ⊢
  rw [z1] at X2
  rw [z2] at X3
  rw [z3] at X4
  have B4 := A4
  have B3 := A3.trans (A4.mono A3.size)
  have B2 := A2.trans (B3.mono A2.size)
  have B1 := A1.trans (B2.mono A1.size)
  have k1 : w.heap.size < w1.heap.size := by omega
  have k2 : w.heap.size + 1 < w2.heap.size := by omega
  have k3 : w.heap.size + 2 < w3.heap.size := by omega
  have get : ∀ {u u' : World} {g : Nat} {b A n c x}, BX u g b A n c x → Below u.heap.size u u' → g < u.heap.size → BX u' g b A n c x := fun h hb _ => h.below hb
  exact ⟨w4, rfl, B1, get X1 B2 k1, get X2 B3 k2, get X3 B4 k3, X4⟩
set_option maxHeartbeats 4000000 in
theorem bothSame_c (ua ub uc ud : Value) (a b c d : Dy) (w : World) (ha : DV w ua a) (hb' : DV w ub b) (hc : DV w uc c) (hd : DV w ud d) (hT : TabD w)
    (h1 : (DC.Add a b).e = 0) (h2 : (DC.Add c d).e = 0) (h3 : (DC.Add a b).d = (DC.Add c d).d) (h4 : Ok (DC.Add a b).d) :
    Calls Tryd.prog 12 #[ua, ub, uc, ud] w fun e w' => e = .returned (.bool true) ∧ Below w.heap.size w w' := by
  have H1 := ha
  have H2 := hb'
  have H3 := hc
  have H4 := hd
  obtain ⟨ba, Aa, na, ca, xa, la, rfl, -⟩ := H1
  obtain ⟨bb, Ab, nb, cb, xb, lb, rfl, -⟩ := H2
  obtain ⟨bc, Ac, nc, cc, xc, lc, rfl, -⟩ := H3
  obtain ⟨bd, Ad, nd, cd, xd, ld, rfl, -⟩ := H4
  obtain ⟨W0, hW0, D0, Y1, Y2, Y3, Y4⟩ := box4 w ba bb bc bd Aa Ab Ac Ad na ca nb cb nc cc nd cd xa xb xc xd
  have Xa : BD W0 w.heap.size ba Aa na ca xa a := ⟨Y1, ha.below D0⟩
  have Xb : BD W0 (w.heap.size + 1) bb Ab nb cb xb b := ⟨Y2, hb'.below D0⟩
  have Xc : BD W0 (w.heap.size + 2) bc Ac nc cc xc c := ⟨Y3, hc.below D0⟩
  have Xd : BD W0 (w.heap.size + 3) bd Ad nd cd xd d := ⟨Y4, hd.below D0⟩
  have HT : Hid (∀ W : World, Below W0.heap.size W0 W → TabD W) := fun W hW => (hT.below D0).below hW
  have HW0 := Lib.hid hW0
  have D := Lib.hid (Below.refl W0.heap.size W0)
  have D0 := Lib.hid D0
  have C1 : Hid (∀ (W : World) (u v : Value), Below W0.heap.size W0 W → DV W u a → DV W v b → Calls Tryd.prog 28 #[u, v] W (RetD W (DC.Add a b))) := fun W u v hW hu hv => Add_d u v a b W hu hv (HT.out W hW)
  have C2 : Hid (∀ (W : World) (u v : Value), Below W0.heap.size W0 W → DV W u c → DV W v d → Calls Tryd.prog 28 #[u, v] W (RetD W (DC.Add c d))) := fun W u v hW hu hv => Add_d u v c d W hu hv (HT.out W hW)
  obtain ⟨r1, hr1⟩ : ∃ r, r = DC.Add a b := ⟨_, rfl⟩
  obtain ⟨r2, hr2⟩ : ∃ r, r = DC.Add c d := ⟨_, rfl⟩
  rw [← hr1] at C1 h1 h3 h4
  rw [← hr2] at C2 h2 h3
  obtain ⟨e1, d1⟩ := r1
  obtain ⟨e2, d2⟩ := r2
  dsimp only at h1 h2 h3 h4
  subst h1 h2 h3
  have OK := Lib.hid h4
  have O2 : Hid (∀ (W : World) (ob : Obj), Calls Tryd.prog 15 #[.slice (some ⟨W.heap.size + 1, 0, none⟩) 2 2] ((W.alloc ob).alloc (.cells #[.int .i64 0, .int .i64 0] 23)) fun e w' => e = .returned (.bool true) ∧ (W.alloc ob).alloc (.cells #[.int .i64 0, .int .i64 0] 23) = w') := fun W ob => by
    have := RC.ok2' (W.alloc ob) 0 0 true rfl
    rwa [show (W.alloc ob).heap.size = W.heap.size + 1 by simp] at this
  clear hr1 hr2 h4 hW0 ha hb' hc hd hT Y1 Y2 Y3 Y4
  go_enter Tryd.func12, Tryd.ntmps12
  go_wp2_with (first
    | (go_at_call 28; rw [HW0.out]; (with_reducible refine (C1.out _ _ _ D.out Xa.dv Xb.dv).mono ?_); rintro e w1 ⟨b1, A1, n1, c1, x1, rfl, hv, hb⟩; have s := hb.alloc hb.size (.cells #[.bool b1, .slice A1 n1 c1, .int .i64 x1] 28); have Xc := Xc.below s; have Xd := Xd.below s; have Xp := BD.new hv.dv; have D := Lib.hid (D.out.trans (s.mono D.out.size)); clear hv hb s; obtain ⟨c_0, c_1, c_2⟩ := Xc.bx; obtain ⟨d_0, d_1, d_2⟩ := Xd.bx)
    | (go_at_call 28; (with_reducible refine (C2.out _ _ _ D.out Xc.dv Xd.dv).mono ?_); rintro e w2 ⟨b2, A2, n2, c2, x2, rfl, hv, hb⟩; have s := hb.alloc hb.size (.cells #[.bool b2, .slice A2 n2 c2, .int .i64 x2] 28); have Xp := Xp.below s; have Xq := BD.new hv.dv; have D := Lib.hid (D.out.trans (s.mono D.out.size)); clear hv hb s)
    | (go_at_call 15; (with_reducible refine (O2.out w2 (.cells #[.bool b2, .slice A2 n2 c2, .int .i64 x2] 28)).mono ?_); rintro e w3 ⟨rfl, hw⟩; have s := al1 (w2.alloc (.cells #[.bool b2, .slice A2 n2 c2, .int .i64 x2] 28)) (.cells #[.int .i64 0, .int .i64 0] 23); rw [hw] at s; clear hw; have Xp := Xp.below s; have Xq := Xq.below s; have D := Lib.hid (D.out.trans (s.mono D.out.size)); clear s; obtain ⟨p_0, p_1, p_2⟩ := Xp.bx; obtain ⟨q_0, q_1, q_2⟩ := Xq.bx)
    | (go_at_call 29; (with_reducible refine (same_true Xp.dv Xq.dv rfl OK.out).mono ?_); rintro e w4 ⟨rfl, hb⟩; have D := Lib.hid (D.out.trans (hb.mono D.out.size)); clear hb))
  go_ret
  exact ⟨rfl, D0.out.trans (D.out.mono D0.out.size)⟩
end XC
end Go.Proofs.YtejglcpiihkenaaDoor

/-
  Package exact: one, and much less (exactLives).
-/
namespace Go.Proofs.YtejglcpiihkenaaDoor
set_option linter.unusedVariables false
set_option linter.unusedSimpArgs false
open Go.RowKit
set_option linter.unusedVariables false
set_option linter.unusedSimpArgs false
namespace XC
open L NC NK DC RC SC PC QC IC
open Z (cmpv)
/-- one and so many more -/
theorem one_up {x j : Int} (j0 : 0 ≤ j) (j1 : j < 4503599627370496) (hx : x = 4607182418800017408 + j) {E : Int} (hE : E = sc 1 (-52)) : fi x ∧ val x = (4503599627370496 + j) * E ∧ U x = (4503599627370496 + j) * E ∧ U (x + 1) = (4503599627370496 + j) * E + E ∧ F.sgn x = false ∧ sz x = (4503599627370496 + j) * E := by
  have fx : fi x := fi_of (by omega) (by omega) (by omega)
  obtain ⟨k, hk⟩ : ∃ k : Nat, k = 1022 := ⟨_, rfl⟩
  obtain ⟨u1, u2⟩ := U_of (k := k) (q := 4503599627370496 + j) (by omega) (by omega) (by omega)
  rw [show (k : Int) * 4503599627370496 + (4503599627370496 + j) = x by omega, show (k : Int) - 1074 = -52 by omega, ← hE] at u1 u2
  have hs : F.sgn x = false := F.sgn_f (by omega)
  have hm : x % 9223372036854775808 = x := by omega
  refine ⟨fx, ?_, u1, ?_, hs, ?_⟩
  · rw [val_eq fx, hs, hm, u1]; rfl
  · rw [u2, Int.add_mul, Int.one_mul]
  · unfold sz; rw [hm, u1]
theorem sc52 {t : Nat} {e : Int} (ht : (t : Int) + e = -52) (h : -1100 ≤ e) : sc 1 (-52) = 2 ^ t * sc 1 e := by
  rw [← sc_mul1, sc_two _ _ (by omega)]
  congr 1; omega
theorem live_sum {O Y : Int} (hO : O = 4607182418800017408) (hY : Y = 4363988038922010624) : T2 O Y = (O, Y, 0) := by
  obtain ⟨E, hE⟩ : ∃ E, E = sc 1 (-52) := ⟨_, rfl⟩
  obtain ⟨fO, vO, uO, uO', sO, -⟩ := one_up (x := O) (j := 0) (by omega) (by omega) (by omega) hE
  obtain ⟨fY, vY, sY, cY⟩ := pow_val (p := Y) (k := -54) (by omega) (by omega) (by omega)
  have e4 := sc52 (t := 2) (e := -54) (by omega) (by omega)
  rw [← hE, show (2 : Int) ^ 2 = 4 by decide] at e4
  have hp := sc_one_pos (-54)
  obtain ⟨D, hD⟩ : ∃ D, D = sc 1 (-54) := ⟨_, rfl⟩
  rw [← hD] at vY e4 hp
  have hf := f2 fO fY
  have hv : vs [O, Y] = (4503599627370496 + 0) * E + D := by simp only [vs]; rw [vO, vY]; omega
  have hn : vs [O, Y] ≠ 0 := by rw [hv]; omega
  have t := tot_ok hf (by simp)
  rw [hv] at t
  have a := (A_abs (tot [O, Y] dz)).1 (by rw [t.2]; omega)
  have tw := tow_bit (a := A (tot [O, Y] dz)) uO uO' (by omega) (by omega) (by rw [a.1, t.2]) hp (by omega) rfl
  obtain ⟨x1, x2, -⟩ := TX_of t.1 (mode := 0) (by omega) tw
  have eO : ad O Y = O := by
    unfold ad
    rw [(AT_fin (by omega) (by simp) hf).2 hn]
    show TX _ 0 = O
    rw [x1, a.2]
    unfold rx ry RC.up
    simp
  obtain ⟨s, r, X, Y', N, e, fs, fr, vx, vy, vN, vr, -, -, -⟩ := two_p fO fY (by unfold F.exq; omega) (by unfold F.exq; omega)
  have es : s = O := by
    unfold T2 at e
    rw [if_neg (by rintro (k | k); exact fO.2.2 k; exact fY.2.2 k)] at e
    split at e
    · cases e
    · exact ((congrArg Prod.fst e).symm.trans eO)
  have er : r = Y := by
    have e1 : val r = val Y := by
      rw [es, vx] at vN
      rw [vr, vy, show X + Y' - N = Y' + (X - N) by omega, Int.add_mul, Int.sub_mul]
      omega
    rcases num_same fr fY e1 with q | q
    · exact q
    · omega
  rw [e, es, er]
theorem live_prod {x p r : Int} (hx : x = 4607182418800017409) (hp : p = 4607182418800017410) (hr : r = 4138808057553485824) : P2 x x = (p, r, 0) := by
  obtain ⟨E, hE⟩ : ∃ E, E = sc 1 (-52) := ⟨_, rfl⟩
  obtain ⟨fx, vx, -, -, sx, -⟩ := one_up (x := x) (j := 1) (by omega) (by omega) (by omega) hE
  obtain ⟨fp, vp, up, up', sp', -⟩ := one_up (x := p) (j := 2) (by omega) (by omega) (by omega) hE
  obtain ⟨fr, vr, sr, cr⟩ := pow_val (p := r) (k := -104) (by omega) (by omega) (by omega)
  have e4 := sc52 (t := 52) (e := -104) (by omega) (by omega)
  rw [← hE, show (2 : Int) ^ 52 = 4503599627370496 by decide] at e4
  have hpos := sc_one_pos (-104)
  -- the product
  have eP : S (PD x x).d = (4503599627370496 + 2) * E + sc 1 (-104) := by
    have a := pd_A (N := 4503599627370497) (N' := 4503599627370497) (i := -52) (i' := -52) (s := false) (s' := false) fx fx (by omega) (by omega) (by omega) (by omega) (by rw [vx, hE]; rfl) (by rw [vx, hE]; rfl)
    have s1 := A_abs (PD x x).d
    rw [show (-52 : Int) + -52 = -104 by omega] at a
    have pd := pd_p fx fx (K := 60000) rfl
    have hS : 0 ≤ S (PD x x).d := by
      rcases Int.lt_or_le (S (PD x x).d) 0 with q | q
      · exfalso
        obtain ⟨K, hK⟩ : ∃ K : Nat, K = 60000 := ⟨_, rfl⟩
        have pd := (pd_p fx fx hK).2.2
        have := Int.mul_neg_of_neg_of_pos q (two_pos' K)
        have := Int.mul_nonneg (show 0 ≤ val x by rw [vx]; exact Int.mul_nonneg (by omega) (by omega)) (show 0 ≤ val x by rw [vx]; exact Int.mul_nonneg (by omega) (by omega))
        omega
      · exact q
    rw [(s1.1 hS).1] at a
    rw [a, e4]
    omega
  have hb : (bc x x).2 = false := (bc_no ⟨fx.1, fx.2.1⟩ ⟨fx.1, fx.2.1⟩).2 ⟨fx, fx, by rw [vx]; have := sc_one_pos (-52); omega, by rw [vx]; have := sc_one_pos (-52); omega⟩
  have ok := (pd_p fx fx (K := 60000) rfl).2.1.ok
  have a := (A_abs (PD x x).d).1 (by rw [eP]; omega)
  have tw := tow_bit (a := A (PD x x).d) up up' (by omega) (by omega) (by rw [a.1, eP]) hpos (by omega) rfl
  obtain ⟨x1, x2, -⟩ := TX_of ok (mode := 0) (by omega) tw
  have em : (MT x x 0).1 = p := by
    rw [MT_fi (by omega) hb]
    show TX _ 0 = p
    rw [x1, a.2]
    unfold rx ry RC.up
    simp
  have fm : fi (MT x x 0).1 := by rw [em]; exact fp
  have hu : F.ulp x = -52 := by
    unfold F.ulp F.exq
    rw [if_pos (by omega)]; omega
  obtain ⟨r', e1, f', e2⟩ := prod_x fx fx (by omega) fm
  have er : r' = r := by
    rw [em, vp, eP] at e2
    rcases num_same f' fr (by rw [vr]; omega) with q | q
    · exact q
    · omega
  unfold P2
  rw [if_neg (by rintro (k | k); exact fx.2.2 k; exact fx.2.2 k), if_neg fm.2.2, e1, em, er]
theorem live_split {x O l : Int} (hx' : x = 4607182418800017409) (hO : O = 4607182418800017408) (hl : l = 4372995238176751616) : SPt x 26 = (O, l, 0) := by
  obtain ⟨E, hE⟩ : ∃ E, E = sc 1 (-52) := ⟨_, rfl⟩
  obtain ⟨fx, vx, -, -, sx, zx⟩ := one_up (x := x) (j := 1) (by omega) (by omega) (by omega) hE
  obtain ⟨fO, vO, uO, uO', sO, -⟩ := one_up (x := O) (j := 0) (by omega) (by omega) (by omega) hE
  obtain ⟨fl, vl, sl, cl⟩ := pow_val (p := l) (k := -52) (by omega) (by omega) (by omega)
  have hp := sc_one_pos (-52)
  have hm : (OfD x).d.m ≠ 0 := fun q => by
    have : val x = 0 := S_m.1 q
    rw [vx] at this; omega
  obtain ⟨t1, t2, -, -⟩ := top_p fx hm
  have k0 : sc 1 0 = 4503599627370496 * E := by
    have := sc_two 52 (-52) (by omega)
    rw [sc_mul1] at this
    rw [hE]; exact this.symm
  have k1 : sc 1 1 = 9007199254740992 * E := by
    have := sc_two 53 (-52) (by omega)
    rw [sc_mul1] at this
    rw [hE]; exact this.symm
  have ht : topx x = 0 := by
    have hb := top_p fx hm
    have g1 : topx x < 1 := sc1_lt (by rw [k1]; omega) (by omega)
    have g2 : 0 < topx x + 1 := sc1_lt (by rw [k0]; omega) (by omega)
    omega
  obtain ⟨P, hP⟩ : ∃ P, P = sc 1 (-25) := ⟨_, rfl⟩
  have eP : P = 134217728 * E := by
    have := sc_two 27 (-52) (by omega)
    rw [sc_mul1] at this
    rw [hE, hP]; exact this.symm
  obtain ⟨c1, c2, fh, vh⟩ := trunc_p (p := -25) fx (by omega) hP
  obtain ⟨r1, r2, r3⟩ := rest_s (p := -25) fx (by omega) hP (by rw [zx]; omega)
  have hE0 : 0 < E := by omega
  have q1 : sz x / P = 33554432 := by
    rw [zx, eP, Int.mul_ediv_mul_of_pos_left _ _ hE0]
    decide
  have q2 : sz x % P = E := by
    have := Int.mul_ediv_add_emod (sz x) P
    rw [q1, zx, eP] at this
    rw [eP, zx]
    omega
  have eh : hx x (-25) = O := by
    have : val (hx x (-25)) = val O := by rw [vh, sx, q1, eP, vO]; unfold sgm; simp; omega
    rcases num_same fh fO this with q | q
    · exact q
    · have := (val0 fO).2 q.2
      rw [vO] at this; omega
  have el : sb x (hx x (-25)) = l := by
    have : val (sb x (hx x (-25))) = val l := by rw [r2, r3, sx, q2, vl, hE]; rfl
    rcases num_same r1 fl this with q | q
    · exact q
    · omega
  unfold SPt
  rw [if_neg fx.2.2, if_neg (fun k => k (by omega)), if_neg hm, ht, show (0 : Int) + 1 - 26 = -25 by omega, el, eh]
theorem livesX_c (w : World) (hT : TabD w) : Calls Tryd.prog 10 #[] w fun e w' => e = .returned (.bool true) ∧ Below w.heap.size w w' := by
  have A1 := Lib.hid (TwoSum_c 4607182418800017408 4363988038922010624 w (by omega) (by omega) hT)
  have A2 : Hid (∀ W, Below w.heap.size w W → Calls Tryd.prog 19 #[.int .u64 4607182418800017409, .int .u64 4607182418800017409] W (DC.RetB W (T2v (P2 4607182418800017409 4607182418800017409)))) := fun W hW => TwoProd_c _ _ W (by omega) (by omega) (hT.below hW)
  have A3 : Hid (∀ W, Below w.heap.size w W → Calls Tryd.prog 21 #[.int .u64 4607182418800017409, .int .i64 26] W (DC.RetB W (T2v (SPt 4607182418800017409 26)))) := fun W hW => Split_c _ _ W (by omega) (by omega) (hT.below hW)
  rw [live_sum rfl rfl] at A1
  rw [live_prod rfl rfl rfl] at A2
  rw [live_split rfl rfl rfl] at A3
  unfold T2v at A1 A2 A3
  clear hT
  go_enter Tryd.func10, Tryd.ntmps10
  go_wp2_with (first
    | (go_at_call 8; (with_reducible refine (A1.out).mono ?_); rintro e w1 ⟨rfl, hb⟩; have D := Lib.hid hb; clear hb)
    | (go_at_call 19; (with_reducible refine (A2.out _ D.out).mono ?_); rintro e w2 ⟨rfl, hb⟩; have D := Lib.hid (D.out.trans (hb.mono D.out.size)); clear hb)
    | (go_at_call 21; (with_reducible refine (A3.out _ D.out).mono ?_); rintro e w3 ⟨rfl, hb⟩; have D := Lib.hid (D.out.trans (hb.mono D.out.size)); clear hb)
    | (go_at_call 15; (with_reducible refine (DC.ok3' w3).mono ?_); rintro e wo ⟨rfl, hw⟩; have s := al1 w3 (.cells #[.int .i64 0, .int .i64 0, .int .i64 0] 23); rw [hw] at s; clear hw; have D := Lib.hid (D.out.trans (s.mono D.out.size)); clear s))
  go_ret
  exact ⟨rfl, D.out⟩
end XC
end Go.Proofs.YtejglcpiihkenaaDoor

/-
  ExactSum: the walk.
-/
namespace Go.Proofs.YtejglcpiihkenaaDoor
set_option linter.unusedVariables false
set_option linter.unusedSimpArgs false
open Go.RowKit
set_option linter.unusedVariables false
set_option linter.unusedSimpArgs false
namespace XC
open L NC NK DC RC SC PC QC IC
open Z (cmpv)
/-- a box's first cell set -/
theorem one_set {W0 W : World} {gp : Nat} {bp : Bool} {Ap : Option Addr} {np cp : Nat} {xp : Int} {dp : Dy} (Xp : BX W gp bp Ap np cp xp) (Gp : GV W bp Ap np cp xp dp) (D : Below W0.heap.size W0 W) (hp : W0.heap.size ≤ gp) :
    BX (W.setCell ⟨gp, 0, none⟩ (.bool false)) gp false Ap np cp xp ∧ DV (W.setCell ⟨gp, 0, none⟩ (.bool false)) (.agg #[.bool false, .slice Ap np cp, .int .i64 xp]) (RC.ab dp) ∧ Below W0.heap.size W0 (W.setCell ⟨gp, 0, none⟩ (.bool false)) := by
  obtain ⟨p0, p1, p2⟩ := Xp
  have gset : GV (W.setCell ⟨gp, 0, none⟩ (.bool false)) bp Ap np cp xp dp := ⟨nv_set Gp.1 p0 (fun z h => by cases h) _, Gp.2⟩
  refine ⟨⟨?_, ?_, ?_⟩, (gv_ab gset).dv, D.setCell hp _⟩
  · exact World.cell?_setCell_same' _ _ _ (by rw [p0]; rfl)
  · rw [World.cell?_setCell_other _ _ _ _ (by simp)]; exact p1
  · rw [World.cell?_setCell_other _ _ _ _ (by simp)]; exact p2
/-- a power of two, made -/
theorem pw_dv (W : World) (u : Int) (h : Ok (pw u)) : DV (W.alloc (.cells #[.int .u32 1] 37)) (.agg #[.bool false, .slice (some ⟨W.heap.size, 0, none⟩) 1 1, .int .i64 u]) (pw u) := by
  have g : GV (W.alloc (.cells #[.int .u32 1] 37)) false (some ⟨W.heap.size, 0, none⟩) 1 1 u (pw u) := by
    refine ⟨⟨[1], Row.sl (L := [1]) (Blk.new W 37 #[.int .u32 1]) 1 (by simp), by intro d hd; simp at hd; omega, by intro h; simp, ?_⟩, ?_, rfl, rfl, h.2.1, h.2.2⟩
    · simp [lv, pw]
    · show false = decide ((1 : Int) < 0); decide
  exact g.dv
theorem fara2 (x y : Int) : fara [x, y] = (decide (1923 ≤ F.exq x) || decide (1923 ≤ F.exq y)) := by simp [fara]
theorem T2_bd {x y : Int} (hx : 0 ≤ x ∧ x ≤ 18446744073709551615) (hy : 0 ≤ y ∧ y ≤ 18446744073709551615) : (0 ≤ (T2 x y).1 ∧ (T2 x y).1 ≤ 18446744073709551615) ∧ (0 ≤ (T2 x y).2.1 ∧ (T2 x y).2.1 ≤ 18446744073709551615) := by
  have bs := ad_bd hx hy
  have ba := sb_bd bs hy
  have bb := sb_bd bs ba
  have bc := sb_bd hx ba
  have bd := sb_bd hy bb
  have br := ad_bd bc bd
  unfold T2
  split
  · exact ⟨⟨by decide, by decide⟩, by decide, by decide⟩
  · split
    · exact ⟨⟨by decide, by decide⟩, by decide, by decide⟩
    · exact ⟨bs, br⟩
set_option maxRecDepth 100000 in
set_option maxHeartbeats 16000000 in
theorem sumX_c (x y : Int) (w : World) (hx : 0 ≤ x ∧ x ≤ 18446744073709551615) (hy : 0 ≤ y ∧ y ≤ 18446744073709551615) (hT : TabD w) :
    Calls Tryd.prog 3 #[.int .u64 x, .int .u64 y] w fun e w' => e = .returned (.bool true) ∧ Below w.heap.size w w' := by
  have HT : Hid (∀ W : World, Below w.heap.size w W → TabD W) := fun W hW => hT.below hW
  have D := Lib.hid (Below.refl w.heap.size w)
  have LIV : Hid (∀ W : World, Below w.heap.size w W → Calls Tryd.prog 10 #[] W fun e w' => e = .returned (.bool true) ∧ Below W.heap.size W w') := fun W hW => livesX_c W (HT.out W hW)
  have TS : Hid (∀ W, Below w.heap.size w W → Calls Tryd.prog 8 #[.int .u64 x, .int .u64 y] W (DC.RetB W (T2v (T2 x y)))) := fun W hW => TwoSum_c x y W hx hy (HT.out W hW)
  have VX : Hid (∀ W : World, Below w.heap.size w W → Calls Tryd.prog 9 #[.int .u64 x] W (RetVb W (OfD x).d ((OfD x).e == 0))) := fun W hW => value_c x W hx.1 hx.2 (HT.out W hW)
  have VY : Hid (∀ W : World, Below w.heap.size w W → Calls Tryd.prog 9 #[.int .u64 y] W (RetVb W (OfD y).d ((OfD y).e == 0))) := fun W hW => value_c y W hy.1 hy.2 (HT.out W hW)
  by_cases he : (T2 x y).2.2 = 0
  · obtain ⟨fx, fy⟩ := T2_ok hx hy he
    have tt : ((0 : Int) == 0) = true := rfl
    rw [(of_fit fx).1, tt] at VX
    rw [(of_fit fy).1, tt] at VY
    obtain ⟨fb, hfb⟩ : ∃ fb, fara [x, y] = fb := ⟨_, rfl⟩
    have FR : Hid (∀ W : World, Calls Tryd.prog 11 #[.slice (some ⟨W.heap.size, 0, none⟩) 2 2] (W.alloc (.cells #[.int .u64 x, .int .u64 y] 22)) fun e w' => e = .returned (.bool fb) ∧ W.alloc (.cells #[.int .u64 x, .int .u64 y] 22) = w') := fun W => far2 W x y hx hy fb hfb
    cases fb
    · rw [fara2, Bool.or_eq_false_iff, decide_eq_false_iff_not, decide_eq_false_iff_not] at hfb
      obtain ⟨s, r, e, fs, fr, b1, b2, b3, b4, c1, c2, op⟩ := sum_law fx fy (by omega) (by omega)
      rw [e] at TS
      have VS : Hid (∀ W : World, Below w.heap.size w W → Calls Tryd.prog 9 #[.int .u64 s] W (RetVb W (OfD s).d true)) := fun W hW => by
        have := value_c s W fs.1 fs.2.1 (HT.out W hW)
        rwa [(of_fit fs).1, tt] at this
      have VR : Hid (∀ W : World, Below w.heap.size w W → Calls Tryd.prog 9 #[.int .u64 r] W (RetVb W (OfD r).d true)) := fun W hW => by
        have := value_c r W fr.1 fr.2.1 (HT.out W hW)
        rwa [(of_fit fr).1, tt] at this
      have BS : Hid (∀ (W : World) (ua ub uc ud : Value), Below w.heap.size w W → DV W ua (OfD x).d → DV W ub (OfD y).d → DV W uc (OfD s).d → DV W ud (OfD r).d → Calls Tryd.prog 12 #[ua, ub, uc, ud] W fun e w' => e = .returned (.bool true) ∧ Below W.heap.size W w') := fun W ua ub uc ud hW h1 h2 h3 h4 => bothSame_c _ _ _ _ _ _ _ _ W h1 h2 h3 h4 (HT.out W hW) b1 b2 b3 b4
      have UL : Hid (∀ W : World, Calls Tryd.prog 13 #[.int .u64 s] W fun e w' => e = .returned (.tuple #[.int .i64 (F.ulp s), .int .i64 0]) ∧ W = w') := fun W => FloatC.Ulp_ok s fs.1 fs.2.1 (by have := F.exq_bd s; have := fs.2.2; omega) W
      have hb := ulp_bd fs
      obtain ⟨u, hu⟩ : ∃ u, u = F.ulp s := ⟨_, rfl⟩
      obtain ⟨v, hv⟩ : ∃ v, v = u - 1 := ⟨_, rfl⟩
      rw [← hu] at UL c1 c2 op hb
      rw [← hv] at c1 c2 op
      have wv : wrap64 (u - 1) = v := by rw [hv]; unfold wrap64; omega
      obtain ⟨k, hk⟩ : ∃ k, k = Cmpn (RC.ab (OfD r).d) (pw v) := ⟨_, rfl⟩
      rw [← hk] at c1
      have CM : Hid (∀ (W : World) (g : Nat) (u : Value), g = W.heap.size → Below w.heap.size w W → DV W u (RC.ab (OfD r).d) → Calls Tryd.prog 14 #[u, .agg #[.bool false, .slice (some ⟨g, 0, none⟩) 1 1, .int .i64 v]] (W.alloc (.cells #[.int .u32 1] 37)) (DC.RetB (W.alloc (.cells #[.int .u32 1] 37)) (.tuple #[.int .i64 k, .int .i64 0]))) := fun W g u hg hW hu => by
        subst hg
        have := Cmp_d u _ _ (pw v) _ (hu.below (al1 W _)) (pw_dv W v op) (HT.out _ (hW.alloc hW.size _))
        rwa [c2, ← hk] at this
      have O2 : Hid (∀ W : World, Calls Tryd.prog 15 #[.slice (some ⟨W.heap.size, 0, none⟩) 2 2] (W.alloc (.cells #[.int .i64 0, .int .i64 0] 23)) fun e w' => e = .returned (.bool true) ∧ W.alloc (.cells #[.int .i64 0, .int .i64 0] 23) = w') := fun W => RC.ok2' W 0 0 true rfl
      have ck : k ≤ 0 := by omega
      unfold T2v at TS
      dsimp only at TS
      generalize (OfD x).d = da at *
      generalize (OfD y).d = db at *
      generalize (OfD s).d = dc at *
      generalize (OfD r).d = dd at *
      clear e fs fr b1 b2 b3 b4 c1 c2 op hu hv hk hfb fx fy he hx hy hT hb tt
      go_enter Tryd.func3, Tryd.ntmps3
      go_wp2_with (first
        | (go_at_call 8; (with_reducible refine (TS.out _ D.out).mono ?_); rintro e w1 ⟨rfl, hb⟩; have D := Lib.hid (D.out.trans (hb.mono D.out.size)); clear hb)
        | (go_at_call 9; (with_reducible refine (VX.out _ D.out).mono ?_); rintro e w2 ⟨ba, Aa, na, ca, xa, rfl, hv, hb⟩; have s := hb.alloc hb.size (.cells #[.bool ba, .slice Aa na ca, .int .i64 xa] 28); have Xa := BD.new hv.dv; have D := Lib.hid (D.out.trans (s.mono D.out.size)); clear hv hb s)
        | (go_at_call 9; (with_reducible refine (VY.out _ D.out).mono ?_); rintro e w3 ⟨bb, Ab, nb, cb, xb, rfl, hv, hb⟩; have s := hb.alloc hb.size (.cells #[.bool bb, .slice Ab nb cb, .int .i64 xb] 28); have Xa := Xa.below s; have Xb := BD.new hv.dv; have D := Lib.hid (D.out.trans (s.mono D.out.size)); clear hv hb s)
        | (go_at_call 9; (with_reducible refine (VS.out _ D.out).mono ?_); rintro e w4 ⟨bc, Ac, nc, cc, xc, rfl, hv, hb⟩; have s := hb.alloc hb.size (.cells #[.bool bc, .slice Ac nc cc, .int .i64 xc] 28); have Xa := Xa.below s; have Xb := Xb.below s; have Xc := BD.new hv.dv; have D := Lib.hid (D.out.trans (s.mono D.out.size)); clear hv hb s)
        | (go_at_call 9; (with_reducible refine (VR.out _ D.out).mono ?_); rintro e w5 ⟨bd, Ad, nd, cd, xd, rfl, hv, hb⟩; have s := hb.alloc hb.size (.cells #[.bool bd, .slice Ad nd cd, .int .i64 xd] 28); have Xa := Xa.below s; have Xb := Xb.below s; have Xc := Xc.below s; have Xd := BD.new hv.dv; have Gd := hv.below (al1 w5 (.cells #[.bool bd, .slice Ad nd cd, .int .i64 xd] 28)); have Kd := Blk.new w5 28 #[.bool bd, .slice Ad nd cd, .int .i64 xd]; have Zd := Lib.hid (D.out.trans (hb.mono D.out.size)).size; have D := Lib.hid (D.out.trans (s.mono D.out.size)); clear hv hb s)
        | (go_at_call 10; (with_reducible refine (LIV.out _ D.out).mono ?_); rintro e w6 ⟨rfl, hb⟩; have Xa := Xa.below hb; have Xb := Xb.below hb; have Xc := Xc.below hb; have Xd := Xd.below hb; have Gd := Gd.below hb; have Kd := Kd.below hb Kd.lt; have D := Lib.hid (D.out.trans (hb.mono D.out.size)); clear hb)
        | (go_at_call 11; (with_reducible refine (FR.out w6).mono ?_); rintro e w7 ⟨rfl, hw⟩; have s := al1 w6 (.cells #[.int .u64 x, .int .u64 y] 22); rw [hw] at s; clear hw; have Xa := Xa.below s; have Xb := Xb.below s; have Xc := Xc.below s; have Xd := Xd.below s; have Gd := Gd.below s; have Kd := Kd.below s Kd.lt; have D := Lib.hid (D.out.trans (s.mono D.out.size)); clear s; obtain ⟨a_0, a_1, a_2⟩ := Xa.bx; obtain ⟨b_0, b_1, b_2⟩ := Xb.bx; obtain ⟨c_0, c_1, c_2⟩ := Xc.bx; obtain ⟨d_0, d_1, d_2⟩ := Xd.bx)
        | (go_at_call 12; (with_reducible refine (BS.out _ _ _ _ _ D.out Xa.dv Xb.dv Xc.dv Xd.dv).mono ?_); rintro e w8 ⟨rfl, hb⟩; have Xa := Xa.below hb; have Xb := Xb.below hb; have Xc := Xc.below hb; have Xd := Xd.below hb; have Gd := Gd.below hb; have Kd := Kd.below hb Kd.lt; have D := Lib.hid (D.out.trans (hb.mono D.out.size)); clear hb; obtain ⟨d_0, d_1, d_2⟩ := Xd.bx; have f_0 := Kd.frozen 0; obtain ⟨⟨e_0, e_1, e_2⟩, Vd, D2⟩ := one_set Xd.bx Gd D.out Zd.out; have D := Lib.hid D2; clear D2)
        | (go_at_call 13; (with_reducible refine (UL.out _).mono ?_); rintro e w9 ⟨rfl, rfl⟩)
        | (go_at_call 14; (with_reducible refine (CM.out _ (w8.heap.size) _ (by simp) D.out Vd).mono ?_); rintro e w10 ⟨rfl, hb⟩; have s := (al1 _ (.cells #[.int .u32 1] 37)).trans (hb.mono (by simp)); have D := Lib.hid (D.out.trans (s.mono D.out.size)); clear hb s)
        | (go_at_call 15; (with_reducible refine (O2.out w10).mono ?_); rintro e w11 ⟨rfl, hw⟩; have s := al1 w10 (.cells #[.int .i64 0, .int .i64 0] 23); rw [hw] at s; clear hw; have D := Lib.hid (D.out.trans (s.mono D.out.size)); clear s))
      go_ret
      exact ⟨rfl, D.out⟩
    · have e : ∃ s r, T2 x y = (s, r, 0) := ⟨_, _, by rw [← he]⟩
      obtain ⟨s, r, e⟩ := e
      have bs : (0 ≤ s ∧ s ≤ 18446744073709551615) ∧ (0 ≤ r ∧ r ≤ 18446744073709551615) := by
        have := T2_bd hx hy
        rw [e] at this
        exact this
      rw [e] at TS
      have VS : Hid (∀ W : World, Below w.heap.size w W → Calls Tryd.prog 9 #[.int .u64 s] W (RetVb W (OfD s).d ((OfD s).e == 0))) := fun W hW => value_c s W bs.1.1 bs.1.2 (HT.out W hW)
      have VR : Hid (∀ W : World, Below w.heap.size w W → Calls Tryd.prog 9 #[.int .u64 r] W (RetVb W (OfD r).d ((OfD r).e == 0))) := fun W hW => value_c r W bs.2.1 bs.2.2 (HT.out W hW)
      generalize ((OfD s).e == 0) = ps at *
      generalize ((OfD r).e == 0) = pr at *
      generalize (OfD x).d = da at *
      generalize (OfD y).d = db at *
      generalize (OfD s).d = dc at *
      generalize (OfD r).d = dd at *
      unfold T2v at TS
      dsimp only at TS
      clear e bs hfb fx fy he hx hy hT tt
      go_enter Tryd.func3, Tryd.ntmps3
      go_wp2_with (first
        | (go_at_call 8; (with_reducible refine (TS.out _ D.out).mono ?_); rintro e w1 ⟨rfl, hb⟩; have D := Lib.hid (D.out.trans (hb.mono D.out.size)); clear hb)
        | (go_at_call 9; (with_reducible refine (VX.out _ D.out).mono ?_); rintro e w2 ⟨ba, Aa, na, ca, xa, rfl, hv, hb⟩; have s := hb.alloc hb.size (.cells #[.bool ba, .slice Aa na ca, .int .i64 xa] 28); have Xa := BD.new hv.dv; have D := Lib.hid (D.out.trans (s.mono D.out.size)); clear hv hb s)
        | (go_at_call 9; (with_reducible refine (VY.out _ D.out).mono ?_); rintro e w3 ⟨bb, Ab, nb, cb, xb, rfl, hv, hb⟩; have s := hb.alloc hb.size (.cells #[.bool bb, .slice Ab nb cb, .int .i64 xb] 28); have Xa := Xa.below s; have Xb := BD.new hv.dv; have D := Lib.hid (D.out.trans (s.mono D.out.size)); clear hv hb s)
        | (go_at_call 9; (with_reducible refine (VS.out _ D.out).mono ?_); rintro e w4 ⟨bc, Ac, nc, cc, xc, rfl, hv, hb⟩; have s := hb.alloc hb.size (.cells #[.bool bc, .slice Ac nc cc, .int .i64 xc] 28); have Xa := Xa.below s; have Xb := Xb.below s; have Xc := BD.new hv.dv; have D := Lib.hid (D.out.trans (s.mono D.out.size)); clear hv hb s)
        | (go_at_call 9; (with_reducible refine (VR.out _ D.out).mono ?_); rintro e w5 ⟨bd, Ad, nd, cd, xd, rfl, hv, hb⟩; have s := hb.alloc hb.size (.cells #[.bool bd, .slice Ad nd cd, .int .i64 xd] 28); have Xa := Xa.below s; have Xb := Xb.below s; have Xc := Xc.below s; have Xd := BD.new hv.dv; have D := Lib.hid (D.out.trans (s.mono D.out.size)); clear hv hb s)
        | (go_at_call 10; (with_reducible refine (LIV.out _ D.out).mono ?_); rintro e w6 ⟨rfl, hb⟩; have Xa := Xa.below hb; have Xb := Xb.below hb; have Xc := Xc.below hb; have Xd := Xd.below hb; have D := Lib.hid (D.out.trans (hb.mono D.out.size)); clear hb)
        | (go_at_call 11; (with_reducible refine (FR.out w6).mono ?_); rintro e w7 ⟨rfl, hw⟩; have s := al1 w6 (.cells #[.int .u64 x, .int .u64 y] 22); rw [hw] at s; clear hw; have Xa := Xa.below s; have Xb := Xb.below s; have Xc := Xc.below s; have Xd := Xd.below s; have D := Lib.hid (D.out.trans (s.mono D.out.size)); clear s))
      go_ret
      exact ⟨rfl, D.out⟩
  · have e := T2_err he
    generalize (T2 x y).2.2 = er at *
    rw [e] at TS
    have k : (er != 0) = true := by simpa using he
    have VZ : Hid (∀ W : World, Below w.heap.size w W → Calls Tryd.prog 9 #[.int .u64 0] W (RetVb W (OfD 0).d ((OfD 0).e == 0))) := fun W hW => value_c 0 W (by omega) (by omega) (HT.out W hW)
    generalize ((OfD x).e == 0) = px at *
    generalize ((OfD y).e == 0) = py at *
    generalize ((OfD 0).e == 0) = pz at *
    generalize (OfD x).d = da at *
    generalize (OfD y).d = db at *
    generalize (OfD 0).d = dc at *
    unfold T2v at TS
    dsimp only at TS
    clear e he hx hy hT
    go_enter Tryd.func3, Tryd.ntmps3
    go_wp2_with (first
      | (go_at_call 8; (with_reducible refine (TS.out _ D.out).mono ?_); rintro e w1 ⟨rfl, hb⟩; have D := Lib.hid (D.out.trans (hb.mono D.out.size)); clear hb)
      | (go_at_call 9; (with_reducible refine (VX.out _ D.out).mono ?_); rintro e w2 ⟨ba, Aa, na, ca, xa, rfl, hv, hb⟩; have s := hb.alloc hb.size (.cells #[.bool ba, .slice Aa na ca, .int .i64 xa] 28); have Xa := BD.new hv.dv; have D := Lib.hid (D.out.trans (s.mono D.out.size)); clear hv hb s)
      | (go_at_call 9; (with_reducible refine (VY.out _ D.out).mono ?_); rintro e w3 ⟨bb, Ab, nb, cb, xb, rfl, hv, hb⟩; have s := hb.alloc hb.size (.cells #[.bool bb, .slice Ab nb cb, .int .i64 xb] 28); have Xb := BD.new hv.dv; have D := Lib.hid (D.out.trans (s.mono D.out.size)); clear hv hb s)
      | (go_at_call 9; (with_reducible refine (VZ.out _ D.out).mono ?_); rintro e w4 ⟨bc, Ac, nc, cc, xc, rfl, hv, hb⟩; have s := hb.alloc hb.size (.cells #[.bool bc, .slice Ac nc cc, .int .i64 xc] 28); have Xc := BD.new hv.dv; have D := Lib.hid (D.out.trans (s.mono D.out.size)); clear hv hb s)
      | (go_at_call 10; (with_reducible refine (LIV.out _ D.out).mono ?_); rintro e w5 ⟨rfl, hb⟩; have D := Lib.hid (D.out.trans (hb.mono D.out.size)); clear hb))
    go_ret
    exact ⟨rfl, D.out⟩
end XC
end Go.Proofs.YtejglcpiihkenaaDoor

