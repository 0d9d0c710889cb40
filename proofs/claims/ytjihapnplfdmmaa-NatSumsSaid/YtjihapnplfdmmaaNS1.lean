/-
  NatSums: the walk.
-/
import Derived.Test.YtjihapnplfdmmaaZ13
import Derived.Test.YtjihapnplfdmmaaN10
import Derived.Test.YtjihapnplfdmmaaNOf
namespace Go.Proofs.Ytjihapnplfdmmaa
open Go.RowKit
set_option linter.unusedVariables false
namespace NS
open L NC
open Z (Nz Tz cmpv big)
open ZC (Is ZV ZL ZLF RetZ SS rights right)
/-- what was told first, in the world W -/
structure SR (w0 W : World) (x y z q r : Value) (zx zy zz zq zr : Int) : Prop where
  low : Below w0.heap.size w0 W
  x : NV W x zx
  y : NV W y zy
  z : NV W z zz
  q : NV W q zq
  r : NV W r zr
theorem SR.below {w0 W W' : World} {x y z q r : Value} {zx zy zz zq zr : Int} (h : SR w0 W x y z q r zx zy zz zq zr) (hb : Below W.heap.size W W') : SR w0 W' x y z q r zx zy zz zq zr :=
  ⟨h.low.trans (hb.mono h.low.size), h.x.below hb, h.y.below hb, h.z.below hb, h.q.below hb, h.r.below hb⟩
theorem NV.zero {w : World} {A : Option Addr} {n c : Nat} (h : NV w (.slice A n c) 0) : n = 0 := by
  obtain ⟨L, h1, h2, h3, h4⟩ := h
  have e := lv_inj h2 Lim.nil h3 (by intro h; exact absurd rfl h) (h4.trans (show (0 : Int) = lv [] from rfl))
  have := h1.len_.1
  rw [this, e]; rfl
theorem small_bds {a b : Int} (h1 : a < 4294967296 ^ 400) (h2 : b < 4294967296 ^ 400) (h3 : 0 ≤ a) (h4 : 0 ≤ b) : a + b < 4294967296 ^ 3000 ∧ a * b < 4294967296 ^ 3000 ∧ a < 4294967296 ^ 3000 ∧ b < 4294967296 ^ 3000 := by
  have e : (4294967296 : Int) ^ 400 * 4294967296 ^ 400 = 4294967296 ^ 800 := by rw [← Int.pow_add]
  have h5 : a * b ≤ 4294967296 ^ 400 * 4294967296 ^ 400 := Int.mul_le_mul (Int.le_of_lt h1) (Int.le_of_lt h2) h4 (Int.le_of_lt (pow_pos _))
  have h6 : (4294967296 : Int) ^ 801 = 4294967296 ^ 800 * 4294967296 := Int.pow_succ _ _
  have h7 := pow_pos 800
  have h8 : (4294967296 : Int) ^ 801 ≤ 4294967296 ^ 3000 := pow_mono (by decide)
  have h9 : (4294967296 : Int) ^ 400 ≤ 4294967296 ^ 800 := pow_mono (by decide)
  generalize (4294967296 : Int) ^ 3000 = c3000 at *
  generalize (4294967296 : Int) ^ 801 = c801 at *
  generalize (4294967296 : Int) ^ 800 = c800 at *
  generalize (4294967296 : Int) ^ 400 = c400 at *
  rw [e] at h5
  omega
theorem SS.drew {w : World} {v : Value} {LL : List (List Int)} (h : SS w v LL) : SS w.drew v LL := h
theorem big5 : big 5 = 100000000000000000000 := by unfold big; decide
theorem big_le (z : Int) (h0 : 0 ≤ z) (h1 : z ≤ 18446744073709551616) : z.natAbs < big 1000000 := by
  have h2 := ZC.big_mono (show 5 ≤ 1000000 by decide)
  rw [big5] at h2
  omega
theorem limbed_nv (s v : Value) (z : Int) (w : World) (hs : NV w s z) (hv : ZV w v z) (hz : z < 4294967296 ^ 3000) : Calls Try.prog 12 #[s, v] w fun e w' => e = .returned (.bool true) ∧ Below w.heap.size w w' := by
  obtain ⟨l, h1, h2, h3, h4⟩ := hs
  have hlen : l.length ≤ 3000 := len_le h2 h3 (by rw [h4]; exact hz)
  have hb := lv_big h2 (show l.length ≤ 30000 by omega)
  rw [h4] at hb
  refine (ZC.Limbed_c s v l z w h1 (by omega) h2 hv hb).mono fun e w' h => ⟨?_, h.2⟩
  rw [h.1]
  have : Is l z := ⟨h3, h4⟩
  simp [this]
theorem right_chk (l : List Int) : right l = chk l := rfl
theorem rights1 (l : List Int) : rights [l] = chk l := by
  unfold rights
  by_cases h : right l = 0
  · rw [if_pos h, ← right_chk, h]; rfl
  · rw [if_neg h, right_chk]
theorem rights2 (l m : List Int) : rights [l, m] = chk2 l m := by
  unfold rights
  unfold chk2
  rw [right_chk, rights1]
  by_cases h : chk l = 0
  · rw [if_pos h, if_neg (by simpa using h)]
  · rw [if_neg h, if_pos h]
theorem ss1 {w : World} {u : Value} {l : List Int} (hs : Sl .u32 w u l) : SS (w.alloc (.cells #[u] 22)) (.slice (some ⟨w.heap.size, 0, none⟩) 1 1) [l] := by
  refine ⟨_, 1, rfl, by simp, fun j hj => ?_⟩
  have h1 : [l].length = 1 := rfl
  obtain rfl : j = 0 := by omega
  refine ⟨⟨w.heap.size, 0, none⟩, u, rfl, ?_, hs.alloc _⟩
  exact (Blk.new w 22 #[u]).at_ 0 rfl
theorem ss2 {w : World} {u v : Value} {l m : List Int} (hs : Sl .u32 w u l) (ht : Sl .u32 w v m) : SS (w.alloc (.cells #[u, v] 22)) (.slice (some ⟨w.heap.size, 0, none⟩) 2 2) [l, m] := by
  refine ⟨_, 2, rfl, by simp, fun j hj => ?_⟩
  have hB := Blk.new w 22 #[u, v]
  have h2 : [l, m].length = 2 := rfl
  rcases (by omega : j = 0 ∨ j = 1) with rfl | rfl
  · exact ⟨⟨w.heap.size, 0, none⟩, u, rfl, hB.at_ 0 rfl, hs.alloc _⟩
  · exact ⟨⟨w.heap.size, 0, none⟩, v, rfl, hB.at_ 1 rfl, ht.alloc _⟩
set_option maxRecDepth 100000 in
set_option maxHeartbeats 8000000 in
theorem sums_c (u v : Value) (l m : List Int) (n : Int) (w : World) (hs : Sl .u32 w u l) (ht : Sl .u32 w v m) (hl : l.length ≤ 9223372036854775807) (hm : m.length ≤ 9223372036854775807) (Ll : Lim l) (Lm : Lim m) (hn : 0 ≤ n ∧ n < 18446744073709551616) :
    Calls Try.prog 3 #[u, v, .int .u64 n] w fun e w' => e = .returned (.bool true) ∧ Below w.heap.size w w' := by
  obtain ⟨A, c, rfl, hc⟩ := hs.form
  obtain ⟨B, d, rfl, hd⟩ := ht.form
  have HS : Hid (∀ W, Below w.heap.size w W → Sl .u32 W (.slice A l.length c) l) := fun W h => hs.below h
  have HT : Hid (∀ W, Below w.heap.size w W → Sl .u32 W (.slice B m.length d) m) := fun W h => ht.below h
  have CC := Cmp_c _ _ l m w hs ht hl hm Ll Lm
  have CA := fun W (h : Below w.heap.size w W) => Add_c _ _ l m W (hs.below h) (ht.below h) hl hm Ll Lm
  have CS := fun W (h : Below w.heap.size w W) => Sub_c _ _ l m W (hs.below h) (ht.below h) hl hm Ll Lm
  have CM := fun W (h : Below w.heap.size w W) => Mul_c _ _ l m W (hs.below h) (ht.below h) hl hm Ll Lm
  have CD := fun W (h : Below w.heap.size w W) => Div_c _ _ l m W (hs.below h) (ht.below h) hl hm Ll Lm
  obtain ⟨cv, hcv⟩ : ∃ t, (if chk2 l m = 0 then cmpv (lv l) (lv m) else 0) = t := ⟨_, rfl⟩
  obtain ⟨zx, hzx⟩ : ∃ t, (if chk2 l m = 0 then lv l + lv m else 0) = t := ⟨_, rfl⟩
  obtain ⟨zy, hzy⟩ : ∃ t, (if errSub l m = 0 then lv l - lv m else 0) = t := ⟨_, rfl⟩
  obtain ⟨zz, hzz⟩ : ∃ t, (if chk2 l m = 0 then lv l * lv m else 0) = t := ⟨_, rfl⟩
  obtain ⟨zq, hzq⟩ : ∃ t, (if errDiv l m = 0 then lv l / lv m else 0) = t := ⟨_, rfl⟩
  obtain ⟨zr, hzr⟩ : ∃ t, (if errDiv l m = 0 then lv l % lv m else 0) = t := ⟨_, rfl⟩
  obtain ⟨es, hes⟩ : ∃ t, errSub l m = t := ⟨_, rfl⟩
  obtain ⟨ed, hed⟩ : ∃ t, errDiv l m = t := ⟨_, rfl⟩
  simp only [hcv] at CC
  simp only [hzx] at CA
  simp only [hzy] at CS
  simp only [hes] at CS
  simp only [hzz] at CM
  simp only [hzq, hzr] at CD
  simp only [hed] at CD
  have CR : Hid (∀ W, Below w.heap.size w W → Calls Try.prog 9 #[.slice (some ⟨W.heap.size, 0, none⟩) 2 2] (W.alloc (.cells #[.slice A l.length c, .slice B m.length d] 22)) (ZC.RetQ (W.alloc (.cells #[.slice A l.length c, .slice B m.length d] 22)) (.int .i64 (chk2 l m)))) := fun W h => by
    rw [← rights2]
    exact ZC.LimbsRight_c _ _ _ (ss2 (hs.below h) (ht.below h)) (by simp) (by intro x hx; simp at hx; rcases hx with rfl | rfl <;> assumption)
  have CR1 : Hid (∀ W W', Below w.heap.size w W → SS W' (.slice (some ⟨W.heap.size, 0, none⟩) 1 1) [l] → Calls Try.prog 9 #[.slice (some ⟨W.heap.size, 0, none⟩) 1 1] W' (ZC.RetQ W' (.int .i64 (chk l)))) := fun W W' h h2 => by
    rw [← rights1]
    exact ZC.LimbsRight_c _ _ _ h2 (by simp) (by intro x hx; simp at hx; rcases hx with rfl; assumption)
  have CK := fun W (h : Below w.heap.size w W) => Check_c _ l W (hs.below h) hl
  have CO := fun W => Of_c n W hn
  obtain ⟨er, her⟩ : ∃ t, chk2 l m = t := ⟨_, rfl⟩
  obtain ⟨ek, hek⟩ : ∃ t, chk l = t := ⟨_, rfl⟩
  have CR := CR.out
  have CR1 := CR1.out
  simp only [her] at CC CA CM CR
  simp only [hek] at CK CR1
  have N1 := fun W => ZC.N_c (n / 4294967296) (by omega) (by omega) W
  have N2 := fun W => ZC.N_c (n % 4294967296) (by omega) (by omega) W
  have N3 := fun W => ZC.N_c 4294967296 (by omega) (by omega) W
  obtain ⟨x, ex⟩ : ∃ x, x = l.length := ⟨_, rfl⟩
  obtain ⟨y, ey⟩ : ∃ y, y = m.length := ⟨_, rfl⟩
  rw [← ex] at hc CC CR HS CK CA CS CM CD ⊢
  rw [← ey] at hd CC CR HT CA CS CM CD ⊢
  have CC := Lib.hid CC
  have CA := Lib.hid CA
  have CS := Lib.hid CS
  have CM := Lib.hid CM
  have CD := Lib.hid CD
  have CR := Lib.hid CR
  have CR1 := Lib.hid CR1
  have CK := Lib.hid CK
  have CO := Lib.hid CO
  have N1 := Lib.hid N1
  have N2 := Lib.hid N2
  have N3 := Lib.hid N3
  have HEQ := Lib.hid (And.intro hcv (And.intro hzx (And.intro hzy (And.intro hzz (And.intro hzq (And.intro hzr (And.intro hes (And.intro hed (And.intro her hek)))))))))
  have hx : x ≤ 9223372036854775807 := by omega
  have hy : y ≤ 9223372036854775807 := by omega
  have EX := Lib.hid ex
  have EY := Lib.hid ey
  have LL := Lib.hid Ll
  have LM := Lib.hid Lm
  clear hs ht hl hm Ll Lm ex ey hcv hzx hzy hzz hzq hzr hes hed her hek
  go_enter Try.func3, Try.ntmps3
  go_upto_region 8 with (first
    | (go_at_call 4; (with_reducible refine (CC.out).mono ?_); rintro e w1 ⟨rfl, k1, rfl⟩; have B1 : Below w.heap.size w (w.drewN k1) := ⟨rfl, rfl, rfl, Nat.le_refl _, fun _ _ => rfl⟩)
    | (go_at_call 5; (with_reducible refine (CA.out _ B1).mono ?_); rintro e w2 ⟨A1, n1, c1, rfl, hx2, hb2⟩; have B2 := B1.trans (hb2.mono B1.size))
    | (go_at_call 6; (with_reducible refine (CS.out _ B2).mono ?_); rintro e w3 ⟨A2, n2, c2, rfl, hx3, hb3⟩; have B3 := B2.trans (hb3.mono B2.size))
    | (go_at_call 7; (with_reducible refine (CM.out _ B3).mono ?_); rintro e w4 ⟨A3, n3, c3, rfl, hx4, hb4⟩; have B4 := B3.trans (hb4.mono B3.size))
    | (go_at_call 8; (with_reducible refine (CD.out _ B4).mono ?_); rintro e w5 ⟨A4, n4, c4, A5, n5, c5, rfl, hx5, hx6, hb5⟩; have B5 := B4.trans (hb5.mono B4.size); have S5 := Lib.hid (SR.mk B5 (((hx2.below hb3).below hb4).below hb5) ((hx3.below hb4).below hb5) (hx4.below hb5) hx5 hx6))
    | (go_at_call 9; (with_reducible refine (CR.out _ B5).mono ?_); rintro e w6 ⟨rfl, k6, rfl⟩)
    | (go_at_call 10; (with_reducible refine (N1.out _).mono ?_); rintro e w7 ⟨_, rfl, ⟨b7, A7, n7, c7, rfl, hv7⟩, hb7⟩)
    | (go_at_call 10; (with_reducible refine (N2.out _).mono ?_); rintro e w8 ⟨_, rfl, ⟨b8, A8, n8, c8, rfl, hv8⟩, hb8⟩))
  have b58 : Below w5.heap.size w5 w8 := by
    have h1 : Below w5.heap.size w5 ((w5.alloc (.cells #[.slice A x c, .slice B y d] 22)).drewN k6) := by
      have := (Below.refl w5.heap.size w5).alloc (Nat.le_refl _) (.cells #[.slice A x c, .slice B y d] 22)
      exact ⟨this.os, this.tape, this.output, this.size, this.block⟩
    have h2 := h1.trans (hb7.mono (by simp [World.drewN]))
    exact h2.trans (hb8.mono h2.size)
  have b8c : Below w8.heap.size w8 ((w8.alloc (Obj.cells #[Value.bool b7, Value.slice A7 n7 c7] 34)).alloc (Obj.cells #[Value.bool b8, Value.slice A8 n8 c8] 34)) := ((Below.refl _ _).alloc (Nat.le_refl _) _).alloc (by simp) _
  have S8 := (S5.out.below b58).below b8c
  have Z7 := (hv7.zl.below hb8).below b8c
  have Z8 := hv8.zl.below b8c
  have X7 := (Blk.new w8 34 #[Value.bool b7, Value.slice A7 n7 c7]).alloc (Obj.cells #[Value.bool b8, Value.slice A8 n8 c8] 34)
  have X8 := Blk.new (w8.alloc (Obj.cells #[Value.bool b7, Value.slice A7 n7 c7] 34)) 34 #[Value.bool b8, Value.slice A8 n8 c8]
  have hlt8 : w8.heap.size + 1 < ((w8.alloc (Obj.cells #[Value.bool b7, Value.slice A7 n7 c7] 34)).alloc (Obj.cells #[Value.bool b8, Value.slice A8 n8 c8] 34)).heap.size := by simp
  rw [World.size_alloc] at X8
  obtain ⟨wc, hwc⟩ : ∃ wc, ((w8.alloc (Obj.cells #[Value.bool b7, Value.slice A7 n7 c7] 34)).alloc (Obj.cells #[Value.bool b8, Value.slice A8 n8 c8] 34)) = wc := ⟨_, rfl⟩
  obtain ⟨g8, hg8⟩ : ∃ g8, w8.heap.size = g8 := ⟨_, rfl⟩
  rw [hwc] at S8 Z7 Z8 X7 X8 hlt8 ⊢
  rw [hg8] at X7 X8 hlt8 ⊢
  have S8 := Lib.hid S8
  have Z7 := Lib.hid Z7
  have Z8 := Lib.hid Z8
  have X7 := Lib.hid X7
  have X8 := Lib.hid X8
  clear hwc hg8 b8c b58 hv7 hv8 hb7 hb8 hb5 hx5 hx6 hx2 hx3 hx4 hb2 hb3 hb4 S5 B1 B2 B3 B4 B5 CC CA CS CM CD CR N1 N2
  go_cut [84] (fun s84 wx => s84 = .bool false ∧ Hid (SR w wx (.slice A1 n1 c1) (.slice A2 n2 c2) (.slice A3 n3 c3) (.slice A4 n4 c4) (.slice A5 n5 c5) zx zy zz zq zr))
  case first =>
    have e1 : (ek != ek) = false := by simp
    have ZM := Lib.hid (fun W va vb (h1 : ZV W va (n / 4294967296)) (h2 : ZV W vb 4294967296) => ZC.ZMul_c va vb _ _ W h1 h2 (big_le _ (by omega) (by omega)) (big_le _ (by omega) (by omega)))
    have ZA := Lib.hid (fun W va vb (h1 : ZV W va (n / 4294967296 * 4294967296)) (h2 : ZV W vb (n % 4294967296)) => ZC.ZAdd_c va vb _ _ W h1 h2 (big_le _ (by omega) (by omega)) (big_le _ (by omega) (by omega)))
    have hn3 : n < 4294967296 ^ 3000 := Int.lt_of_lt_of_le (show n < 4294967296 ^ 2 by omega) (pow_mono (by decide))
    have LB : Hid (∀ W s va, NV W s n → ZV W va (n / 4294967296 * 4294967296 + n % 4294967296) → Calls Try.prog 12 #[s, va] W fun e w' => e = .returned (.bool true) ∧ Below W.heap.size W w') := fun W s va h1 h2 => limbed_nv s va n W h1 (by rw [show n / 4294967296 * 4294967296 + n % 4294967296 = n by omega] at h2; exact h2) hn3
    have KP : Hid (∀ W, Below wc.heap.size wc W → W.cell? ⟨g8, 0, none⟩ = some (.bool b7) ∧ W.cell? ⟨g8, 1, none⟩ = some (.slice A7 n7 c7) ∧ W.cell? ⟨g8 + 1, 0, none⟩ = some (.bool b8) ∧ W.cell? ⟨g8 + 1, 1, none⟩ = some (.slice A8 n8 c8)) := fun W h =>
      ⟨(X7.out.below h X7.out.lt).at_ 0 rfl, (X7.out.below h X7.out.lt).at_ 1 rfl, (X8.out.below h X8.out.lt).at_ 0 rfl, (X8.out.below h X8.out.lt).at_ 1 rfl⟩
    have BA : Below wc.heap.size wc (wc.alloc (.cells #[.slice A x c] 22)) := (Below.refl _ _).alloc (Nat.le_refl _) _
    have S1 := Lib.hid (SS.drew (ss1 (HS.out wc S8.out.low)))
    have CR1' := Lib.hid (CR1.out wc _ S8.out.low S1.out)
    clear hn3 CR1
    (refine wp_region_L (S := fun w' => w'.cell? ⟨g8, 0, none⟩ = some (.bool b7) ∧ w'.cell? ⟨g8, 1, none⟩ = some (.slice A7 n7 c7) ∧ w'.cell? ⟨g8 + 1, 0, none⟩ = some (.bool b8) ∧ w'.cell? ⟨g8 + 1, 1, none⟩ = some (.slice A8 n8 c8)) (nl := 1000000) (by kernel_rfl) ?_ (fun hHeld => ?_); focus (exact KP.out _ (Below.refl _ _).drew))
    (refine wpAnyL_take (i := 0) (oi := _) (v := ?_) rfl (by kernel_rfl) (by kernel_rfl) (by kernel_rfl) (fun _ _ _ h => h) (Or.inl ⟨by rfl, ?hy1⟩) (by assumption) ?rs1; (case hy1 => (intro w hSw; (try dsimp only at hSw); go_simp; first | done | with_reducible rfl)); case' rs1 => (simp only [List.getElem_toArray, List.getElem_cons_zero, List.getElem_cons_succ, Act.put, List.setIfInBounds_toArray, List.set_cons_zero, List.set_cons_succ])); (refine wpAnyL_take (i := 2) (oi := _) (v := ?_) rfl (by kernel_rfl) (by kernel_rfl) (by kernel_rfl) (fun _ _ _ h => h) (Or.inl ⟨by rfl, ?hy2⟩) (by assumption) ?rs2; (case hy2 => (intro w hSw; (try dsimp only at hSw); go_simp; first | done | with_reducible rfl)); case' rs2 => (simp only [List.getElem_toArray, List.getElem_cons_zero, List.getElem_cons_succ, Act.put, List.setIfInBounds_toArray, List.set_cons_zero, List.set_cons_succ])); skip
    refine wpAnyL_two (i := 1) (j := 3) (oi := _) (oj := _) (by kernel_rfl) rfl rfl (fun K hK => ?_) (fun K hK => ?_)
    · (clear hHeld; simp only [List.getElem_toArray, List.getElem_cons_zero, List.getElem_cons_succ]; go_simp; (go_at_call 11; (with_reducible refine (CK.out _ S8.out.low.drew).mono ?_); rintro e w9 ⟨rfl, rfl⟩); refine hK.out _ _ ?_ (fun hHeld => ?_); focus (intro _; exact KP.out _ (Below.refl _ _).drew)); have hHeld := hHeld (by decide); clear hK K; (try simp only [Act.put, List.setIfInBounds_toArray, List.set_cons_zero, List.set_cons_succ])
      (refine wpAnyL_one (i := 3) (o := _) (by kernel_rfl) rfl (fun K hK => ?_); clear hHeld; simp only [List.getElem_toArray, List.getElem_cons_zero, List.getElem_cons_succ]; go_simp; refine hK.out _ _ ?_ (fun hHeld => ?_); focus (intro _; exact KP.out _ BA.drew)); have hHeld := hHeld (by decide); clear hK K; (try simp only [Act.put, List.setIfInBounds_toArray, List.set_cons_zero, List.set_cons_succ])
      (refine wpAnyL_one (i := 4) (o := _) (by kernel_rfl) rfl (fun K hK => ?_); clear hHeld; simp only [List.getElem_toArray, List.getElem_cons_zero, List.getElem_cons_succ]; go_simp; (go_at_call 9; (with_reducible refine (CR1'.out).mono ?_); rintro e w10 ⟨rfl, k10, hw10⟩; have B10 : Below wc.heap.size wc w10 := by rw [hw10]; exact ⟨BA.os, BA.tape, BA.output, BA.size, BA.block⟩); refine hK.out _ _ ?_ (fun hHeld => ?_); focus (intro _; exact KP.out _ B10)); have hHeld := hHeld (by decide); clear hK K; (try simp only [Act.put, List.setIfInBounds_toArray, List.set_cons_zero, List.set_cons_succ])
      clear hw10
      (refine wpAnyL_take (i := 5) (oi := _) (v := ?_) rfl (by kernel_rfl) (by kernel_rfl) (by kernel_rfl) (fun _ _ _ h => h) (Or.inl ⟨by rfl, ?hy3⟩) (by assumption) ?rs3; (case hy3 => (intro w hSw; (try dsimp only at hSw); go_simp; first | done | with_reducible rfl)); case' rs3 => (simp only [List.getElem_toArray, List.getElem_cons_zero, List.getElem_cons_succ, Act.put, List.setIfInBounds_toArray, List.set_cons_zero, List.set_cons_succ])); (refine wpAnyL_take (i := 6) (oi := _) (v := ?_) rfl (by kernel_rfl) (by kernel_rfl) (by kernel_rfl) (fun _ _ _ h => h) (Or.inl ⟨by rfl, ?hy4⟩) (by assumption) ?rs4; (case hy4 => (intro w hSw; (try dsimp only at hSw); go_simp; first | done | with_reducible rfl)); case' rs4 => (simp only [List.getElem_toArray, List.getElem_cons_zero, List.getElem_cons_succ, Act.put, List.setIfInBounds_toArray, List.set_cons_zero, List.set_cons_succ])); (refine wpAnyL_take (i := 7) (oi := _) (v := ?_) rfl (by kernel_rfl) (by kernel_rfl) (by kernel_rfl) (fun _ _ _ h => h) (Or.inl ⟨by rfl, ?hy5⟩) (by assumption) ?rs5; (case hy5 => (intro w hSw; (try dsimp only at hSw); go_simp; first | done | with_reducible rfl)); case' rs5 => (simp only [List.getElem_toArray, List.getElem_cons_zero, List.getElem_cons_succ, Act.put, List.setIfInBounds_toArray, List.set_cons_zero, List.set_cons_succ])); (refine wpAnyL_take (i := 9) (oi := _) (v := ?_) rfl (by kernel_rfl) (by kernel_rfl) (by kernel_rfl) (fun _ _ _ h => h) (Or.inl ⟨by rfl, ?hy6⟩) (by assumption) ?rs6; (case hy6 => (intro w hSw; (try dsimp only at hSw); go_simp; first | done | with_reducible rfl)); case' rs6 => (simp only [List.getElem_toArray, List.getElem_cons_zero, List.getElem_cons_succ, Act.put, List.setIfInBounds_toArray, List.set_cons_zero, List.set_cons_succ])); (refine wpAnyL_take (i := 12) (oi := _) (v := ?_) rfl (by kernel_rfl) (by kernel_rfl) (by kernel_rfl) (fun _ _ _ h => h) (Or.inl ⟨by rfl, ?hy7⟩) (by assumption) ?rs7; (case hy7 => (intro w hSw; (try dsimp only at hSw); go_simp; first | done | with_reducible rfl)); case' rs7 => (simp only [List.getElem_toArray, List.getElem_cons_zero, List.getElem_cons_succ, Act.put, List.setIfInBounds_toArray, List.set_cons_zero, List.set_cons_succ])); skip
      (refine wpAnyL_one (i := 8) (o := _) (by kernel_rfl) rfl (fun K hK => ?_); clear hHeld; simp only [List.getElem_toArray, List.getElem_cons_zero, List.getElem_cons_succ]; go_simp; (go_at_call 13; (with_reducible refine (CO.out _).mono ?_); rintro e w11 ⟨AO, nO, cO, rfl, hO, hb11⟩; have B11 := B10.trans (hb11.mono B10.size)); refine hK.out _ _ ?_ (fun hHeld => ?_); focus (intro _; exact KP.out _ B11)); have hHeld := hHeld (by decide); clear hK K; (try simp only [Act.put, List.setIfInBounds_toArray, List.set_cons_zero, List.set_cons_succ])
      (refine wpAnyL_one (i := 10) (o := _) (by kernel_rfl) rfl (fun K hK => ?_); clear hHeld; simp only [List.getElem_toArray, List.getElem_cons_zero, List.getElem_cons_succ]; go_simp; (go_at_call 10; (with_reducible refine (N3.out _).mono ?_); rintro e w12 ⟨_, rfl, ⟨b12, A12, n12, c12, rfl, hv12⟩, hb12⟩; have B12 := B11.trans (hb12.mono B11.size); have V7 := (Z7.out.below B12).v); refine hK.out _ _ ?_ (fun hHeld => ?_); focus (intro _; exact KP.out _ B12)); have hHeld := hHeld (by decide); clear hK K; (try simp only [Act.put, List.setIfInBounds_toArray, List.set_cons_zero, List.set_cons_succ])
      (refine wpAnyL_one (i := 11) (o := _) (by kernel_rfl) rfl (fun K hK => ?_); clear hHeld; simp only [List.getElem_toArray, List.getElem_cons_zero, List.getElem_cons_succ]; go_simp; (go_at_call 15; (with_reducible refine (ZM.out _ _ _ V7 hv12.zl.v).mono ?_); rintro e w13 ⟨_, rfl, ⟨b13, A13, n13, c13, rfl, hv13⟩, hb13⟩; have B13 := B12.trans (hb13.mono B12.size); have V8 := (Z8.out.below B13).v); refine hK.out _ _ ?_ (fun hHeld => ?_); focus (intro _; exact KP.out _ B13)); have hHeld := hHeld (by decide); clear hK K; (try simp only [Act.put, List.setIfInBounds_toArray, List.set_cons_zero, List.set_cons_succ])
      (refine wpAnyL_one (i := 13) (o := _) (by kernel_rfl) rfl (fun K hK => ?_); clear hHeld; simp only [List.getElem_toArray, List.getElem_cons_zero, List.getElem_cons_succ]; go_simp; (go_at_call 14; (with_reducible refine (ZA.out _ _ _ hv13.zl.v V8).mono ?_); rintro e w14 ⟨_, rfl, ⟨b14, A14, n14, c14, rfl, hv14⟩, hb14⟩; have B14 := B13.trans (hb14.mono B13.size); have O14 := ((hO.below hb12).below hb13).below hb14); refine hK.out _ _ ?_ (fun hHeld => ?_); focus (intro _; exact KP.out _ B14)); have hHeld := hHeld (by decide); clear hK K; (try simp only [Act.put, List.setIfInBounds_toArray, List.set_cons_zero, List.set_cons_succ])
      (refine wpAnyL_one (i := 14) (o := _) (by kernel_rfl) rfl (fun K hK => ?_); clear hHeld; simp only [List.getElem_toArray, List.getElem_cons_zero, List.getElem_cons_succ]; go_simp; (go_at_call 12; (with_reducible refine (LB.out _ _ _ O14 hv14.zl.v).mono ?_); rintro e w15 ⟨rfl, hb15⟩; have B15 := B14.trans (hb15.mono B14.size)); refine hK.out _ _ ?_ (fun hHeld => ?_); focus (intro _; exact KP.out _ B15)); have hHeld := hHeld (by decide); clear hK K; (try simp only [Act.put, List.setIfInBounds_toArray, List.set_cons_zero, List.set_cons_succ])
      (refine wpAnyL_take (i := 15) (oi := _) (v := ?_) rfl (by kernel_rfl) (by kernel_rfl) (by kernel_rfl) (fun _ _ _ h => h) (Or.inl ⟨by rfl, ?hy8⟩) (by assumption) ?rs8; (case hy8 => (intro w hSw; (try dsimp only at hSw); go_simp; first | done | with_reducible rfl)); case' rs8 => (simp only [List.getElem_toArray, List.getElem_cons_zero, List.getElem_cons_succ, Act.put, List.setIfInBounds_toArray, List.set_cons_zero, List.set_cons_succ])); (refine wpAnyL_take (i := 16) (oi := _) (v := ?_) rfl (by kernel_rfl) (by kernel_rfl) (by kernel_rfl) (fun _ _ _ h => h) (Or.inl ⟨by rfl, ?hy9⟩) (by assumption) ?rs9; (case hy9 => (intro w hSw; (try dsimp only at hSw); go_simp; first | done | with_reducible rfl)); case' rs9 => (simp only [List.getElem_toArray, List.getElem_cons_zero, List.getElem_cons_succ, Act.put, List.setIfInBounds_toArray, List.set_cons_zero, List.set_cons_succ])); skip
      refine wpAnyL_done (by kernel_rfl) ?_ _
      go_wp2
      go_meet
      exact ⟨rfl, S8.out.below B15⟩
    · (clear hHeld; simp only [List.getElem_toArray, List.getElem_cons_zero, List.getElem_cons_succ]; go_simp; refine hK.out _ _ ?_ (fun hHeld => ?_); focus (intro _; exact KP.out _ BA.drew)); have hHeld := hHeld (by decide); clear hK K; (try simp only [Act.put, List.setIfInBounds_toArray, List.set_cons_zero, List.set_cons_succ])
      (refine wpAnyL_one (i := 1) (o := _) (by kernel_rfl) rfl (fun K hK => ?_); clear hHeld; simp only [List.getElem_toArray, List.getElem_cons_zero, List.getElem_cons_succ]; go_simp; (go_at_call 11; (with_reducible refine (CK.out _ (S8.out.low.trans (BA.drew.mono S8.out.low.size))).mono ?_); rintro e w9 ⟨rfl, rfl⟩); refine hK.out _ _ ?_ (fun hHeld => ?_); focus (intro _; exact KP.out _ BA.drew)); have hHeld := hHeld (by decide); clear hK K; (try simp only [Act.put, List.setIfInBounds_toArray, List.set_cons_zero, List.set_cons_succ])
      (refine wpAnyL_one (i := 4) (o := _) (by kernel_rfl) rfl (fun K hK => ?_); clear hHeld; simp only [List.getElem_toArray, List.getElem_cons_zero, List.getElem_cons_succ]; go_simp; (go_at_call 9; (with_reducible refine (CR1'.out).mono ?_); rintro e w10 ⟨rfl, k10, hw10⟩; have B10 : Below wc.heap.size wc w10 := by rw [hw10]; exact ⟨BA.os, BA.tape, BA.output, BA.size, BA.block⟩); refine hK.out _ _ ?_ (fun hHeld => ?_); focus (intro _; exact KP.out _ B10)); have hHeld := hHeld (by decide); clear hK K; (try simp only [Act.put, List.setIfInBounds_toArray, List.set_cons_zero, List.set_cons_succ])
      clear hw10
      (refine wpAnyL_take (i := 5) (oi := _) (v := ?_) rfl (by kernel_rfl) (by kernel_rfl) (by kernel_rfl) (fun _ _ _ h => h) (Or.inl ⟨by rfl, ?hy10⟩) (by assumption) ?rs10; (case hy10 => (intro w hSw; (try dsimp only at hSw); go_simp; first | done | with_reducible rfl)); case' rs10 => (simp only [List.getElem_toArray, List.getElem_cons_zero, List.getElem_cons_succ, Act.put, List.setIfInBounds_toArray, List.set_cons_zero, List.set_cons_succ])); (refine wpAnyL_take (i := 6) (oi := _) (v := ?_) rfl (by kernel_rfl) (by kernel_rfl) (by kernel_rfl) (fun _ _ _ h => h) (Or.inl ⟨by rfl, ?hy11⟩) (by assumption) ?rs11; (case hy11 => (intro w hSw; (try dsimp only at hSw); go_simp; first | done | with_reducible rfl)); case' rs11 => (simp only [List.getElem_toArray, List.getElem_cons_zero, List.getElem_cons_succ, Act.put, List.setIfInBounds_toArray, List.set_cons_zero, List.set_cons_succ])); (refine wpAnyL_take (i := 7) (oi := _) (v := ?_) rfl (by kernel_rfl) (by kernel_rfl) (by kernel_rfl) (fun _ _ _ h => h) (Or.inl ⟨by rfl, ?hy12⟩) (by assumption) ?rs12; (case hy12 => (intro w hSw; (try dsimp only at hSw); go_simp; first | done | with_reducible rfl)); case' rs12 => (simp only [List.getElem_toArray, List.getElem_cons_zero, List.getElem_cons_succ, Act.put, List.setIfInBounds_toArray, List.set_cons_zero, List.set_cons_succ])); (refine wpAnyL_take (i := 9) (oi := _) (v := ?_) rfl (by kernel_rfl) (by kernel_rfl) (by kernel_rfl) (fun _ _ _ h => h) (Or.inl ⟨by rfl, ?hy13⟩) (by assumption) ?rs13; (case hy13 => (intro w hSw; (try dsimp only at hSw); go_simp; first | done | with_reducible rfl)); case' rs13 => (simp only [List.getElem_toArray, List.getElem_cons_zero, List.getElem_cons_succ, Act.put, List.setIfInBounds_toArray, List.set_cons_zero, List.set_cons_succ])); (refine wpAnyL_take (i := 12) (oi := _) (v := ?_) rfl (by kernel_rfl) (by kernel_rfl) (by kernel_rfl) (fun _ _ _ h => h) (Or.inl ⟨by rfl, ?hy14⟩) (by assumption) ?rs14; (case hy14 => (intro w hSw; (try dsimp only at hSw); go_simp; first | done | with_reducible rfl)); case' rs14 => (simp only [List.getElem_toArray, List.getElem_cons_zero, List.getElem_cons_succ, Act.put, List.setIfInBounds_toArray, List.set_cons_zero, List.set_cons_succ])); skip
      (refine wpAnyL_one (i := 8) (o := _) (by kernel_rfl) rfl (fun K hK => ?_); clear hHeld; simp only [List.getElem_toArray, List.getElem_cons_zero, List.getElem_cons_succ]; go_simp; (go_at_call 13; (with_reducible refine (CO.out _).mono ?_); rintro e w11 ⟨AO, nO, cO, rfl, hO, hb11⟩; have B11 := B10.trans (hb11.mono B10.size)); refine hK.out _ _ ?_ (fun hHeld => ?_); focus (intro _; exact KP.out _ B11)); have hHeld := hHeld (by decide); clear hK K; (try simp only [Act.put, List.setIfInBounds_toArray, List.set_cons_zero, List.set_cons_succ])
      (refine wpAnyL_one (i := 10) (o := _) (by kernel_rfl) rfl (fun K hK => ?_); clear hHeld; simp only [List.getElem_toArray, List.getElem_cons_zero, List.getElem_cons_succ]; go_simp; (go_at_call 10; (with_reducible refine (N3.out _).mono ?_); rintro e w12 ⟨_, rfl, ⟨b12, A12, n12, c12, rfl, hv12⟩, hb12⟩; have B12 := B11.trans (hb12.mono B11.size); have V7 := (Z7.out.below B12).v); refine hK.out _ _ ?_ (fun hHeld => ?_); focus (intro _; exact KP.out _ B12)); have hHeld := hHeld (by decide); clear hK K; (try simp only [Act.put, List.setIfInBounds_toArray, List.set_cons_zero, List.set_cons_succ])
      (refine wpAnyL_one (i := 11) (o := _) (by kernel_rfl) rfl (fun K hK => ?_); clear hHeld; simp only [List.getElem_toArray, List.getElem_cons_zero, List.getElem_cons_succ]; go_simp; (go_at_call 15; (with_reducible refine (ZM.out _ _ _ V7 hv12.zl.v).mono ?_); rintro e w13 ⟨_, rfl, ⟨b13, A13, n13, c13, rfl, hv13⟩, hb13⟩; have B13 := B12.trans (hb13.mono B12.size); have V8 := (Z8.out.below B13).v); refine hK.out _ _ ?_ (fun hHeld => ?_); focus (intro _; exact KP.out _ B13)); have hHeld := hHeld (by decide); clear hK K; (try simp only [Act.put, List.setIfInBounds_toArray, List.set_cons_zero, List.set_cons_succ])
      (refine wpAnyL_one (i := 13) (o := _) (by kernel_rfl) rfl (fun K hK => ?_); clear hHeld; simp only [List.getElem_toArray, List.getElem_cons_zero, List.getElem_cons_succ]; go_simp; (go_at_call 14; (with_reducible refine (ZA.out _ _ _ hv13.zl.v V8).mono ?_); rintro e w14 ⟨_, rfl, ⟨b14, A14, n14, c14, rfl, hv14⟩, hb14⟩; have B14 := B13.trans (hb14.mono B13.size); have O14 := ((hO.below hb12).below hb13).below hb14); refine hK.out _ _ ?_ (fun hHeld => ?_); focus (intro _; exact KP.out _ B14)); have hHeld := hHeld (by decide); clear hK K; (try simp only [Act.put, List.setIfInBounds_toArray, List.set_cons_zero, List.set_cons_succ])
      (refine wpAnyL_one (i := 14) (o := _) (by kernel_rfl) rfl (fun K hK => ?_); clear hHeld; simp only [List.getElem_toArray, List.getElem_cons_zero, List.getElem_cons_succ]; go_simp; (go_at_call 12; (with_reducible refine (LB.out _ _ _ O14 hv14.zl.v).mono ?_); rintro e w15 ⟨rfl, hb15⟩; have B15 := B14.trans (hb15.mono B14.size)); refine hK.out _ _ ?_ (fun hHeld => ?_); focus (intro _; exact KP.out _ B15)); have hHeld := hHeld (by decide); clear hK K; (try simp only [Act.put, List.setIfInBounds_toArray, List.set_cons_zero, List.set_cons_succ])
      (refine wpAnyL_take (i := 15) (oi := _) (v := ?_) rfl (by kernel_rfl) (by kernel_rfl) (by kernel_rfl) (fun _ _ _ h => h) (Or.inl ⟨by rfl, ?hy15⟩) (by assumption) ?rs15; (case hy15 => (intro w hSw; (try dsimp only at hSw); go_simp; first | done | with_reducible rfl)); case' rs15 => (simp only [List.getElem_toArray, List.getElem_cons_zero, List.getElem_cons_succ, Act.put, List.setIfInBounds_toArray, List.set_cons_zero, List.set_cons_succ])); (refine wpAnyL_take (i := 16) (oi := _) (v := ?_) rfl (by kernel_rfl) (by kernel_rfl) (by kernel_rfl) (fun _ _ _ h => h) (Or.inl ⟨by rfl, ?hy16⟩) (by assumption) ?rs16; (case hy16 => (intro w hSw; (try dsimp only at hSw); go_simp; first | done | with_reducible rfl)); case' rs16 => (simp only [List.getElem_toArray, List.getElem_cons_zero, List.getElem_cons_succ, Act.put, List.setIfInBounds_toArray, List.set_cons_zero, List.set_cons_succ])); skip
      refine wpAnyL_done (by kernel_rfl) ?_ _
      go_wp2
      go_meet
      exact ⟨rfl, S8.out.below B15⟩
  case rest =>
    obtain ⟨rfl, hS⟩ := hcut
    obtain ⟨hcv, hzx, hzy, hzz, hzq, hzr, hes, hed, her, hek⟩ := HEQ.out
    clear CR1 CO N3 CK
    by_cases h0 : er = 0
    · subst h0
      have h1 := chk2_ok.1 her
      have h2 := chk_ok.1 h1.1
      have h3 := chk_ok.1 h1.2
      have bl := lv_big LL.out (show l.length ≤ 30000 by omega)
      have bm := lv_big LM.out (show m.length ≤ 30000 by omega)
      have bl9 := lv_bigN LL.out 900000 (by omega)
      have bm9 := lv_bigN LM.out 900000 (by omega)
      have ZL1 : Hid (∀ W, Below w.heap.size w W → Calls Try.prog 16 #[.slice A x c] W (RetZ W (lv l))) := fun W h => ZC.ZLimbs_c l.length _ l W (HS.out W h) (Nat.le_refl _) (by omega) LL.out
      have ZL2 : Hid (∀ W, Below w.heap.size w W → Calls Try.prog 16 #[.slice B y d] W (RetZ W (lv m))) := fun W h => ZC.ZLimbs_c m.length _ m W (HT.out W h) (Nat.le_refl _) (by omega) LM.out
      have CZ := Lib.hid (fun W va vb (h1 : ZV W va (lv l)) (h2 : ZV W vb (lv m)) => ZC.ZCmp_c va vb _ _ W h1 h2 bl bm)
      have CZA := Lib.hid (fun W va vb (h1 : ZV W va (lv l)) (h2 : ZV W vb (lv m)) => ZC.ZAdd_c va vb _ _ W h1 h2 bl bm)
      have CZM := Lib.hid (fun W va vb (h1 : ZV W va (lv l)) (h2 : ZV W vb (lv m)) => ZC.ZMul_c va vb _ _ W h1 h2 bl bm)
      have CZS := Lib.hid (fun W va vb (h1 : ZV W va (lv l)) (h2 : ZV W vb (lv m)) => ZC.ZSub_c va vb _ _ W h1 h2 bl bm)
      have CZD := Lib.hid (fun W va vb (h0 : lv m ≠ 0) (h1 : ZV W va (lv l)) (h2 : ZV W vb (lv m)) => ZC.ZDiv_c va vb _ _ W h1 h2 bl9 bm9 h0)
      have u1 : lv l < 4294967296 ^ 400 := Int.lt_of_lt_of_le (lv_lt LL.out) (pow_mono h2.1)
      have u2 : lv m < 4294967296 ^ 400 := Int.lt_of_lt_of_le (lv_lt LM.out) (pow_mono h3.1)
      have v1 := lv_nonneg LL.out
      have v2 := lv_nonneg LM.out
      rw [her, if_pos rfl] at hcv hzx hzz
      have U := Lib.hid (small_bds u1 u2 v1 v2)
      have H12 := Lib.hid (And.intro h2 h3)
      have low0 := hS.out.low
      have HEQ2 := Lib.hid (And.intro hcv (And.intro hzx (And.intro hzy (And.intro hzz (And.intro hzq (And.intro hzr (And.intro hes (And.intro hed her))))))))
      clear bl bm bl9 bm9 u1 u2 v1 v2 h1 h2 h3 hcv hzx hzy hzz hzq hzr hes hed her hek HEQ
      go_upto_region 13 with (first
        | (go_at_call 16; (with_reducible refine (ZL1.out _ low0).mono ?_); rintro e wa ⟨_, rfl, ⟨ba, Aa, na, ca, rfl, hva⟩, hba⟩; have lowa := low0.trans (hba.mono low0.size); clear ZL1)
        | (go_at_call 16; (with_reducible refine (ZL2.out _ lowa).mono ?_); rintro e wb ⟨_, rfl, ⟨bb, Ab, nb, cb, rfl, hvb⟩, hbb⟩))
      have S9 := ((hS.out.below hba).below hbb)
      have Za := hva.zl.below hbb
      have Zb := hvb.zl
      have b8c : Below wb.heap.size wb ((wb.alloc (Obj.cells #[Value.bool ba, Value.slice Aa na ca] 34)).alloc (Obj.cells #[Value.bool bb, Value.slice Ab nb cb] 34)) := ((Below.refl _ _).alloc (Nat.le_refl _) _).alloc (by simp) _
      have X7 := (Blk.new wb 34 #[Value.bool ba, Value.slice Aa na ca]).alloc (Obj.cells #[Value.bool bb, Value.slice Ab nb cb] 34)
      have X8 := Blk.new (wb.alloc (Obj.cells #[Value.bool ba, Value.slice Aa na ca] 34)) 34 #[Value.bool bb, Value.slice Ab nb cb]
      rw [World.size_alloc] at X8
      have S9 := S9.below b8c
      have Za := Za.below b8c
      have Zb := Zb.below b8c
      obtain ⟨wd, hwd⟩ : ∃ wd, ((wb.alloc (Obj.cells #[Value.bool ba, Value.slice Aa na ca] 34)).alloc (Obj.cells #[Value.bool bb, Value.slice Ab nb cb] 34)) = wd := ⟨_, rfl⟩
      obtain ⟨g9, hg9⟩ : ∃ g9, wb.heap.size = g9 := ⟨_, rfl⟩
      rw [hwd] at S9 Za Zb X7 X8 ⊢
      rw [hg9] at X7 X8 ⊢
      have S9 := Lib.hid S9
      have Za := Lib.hid Za
      have Zb := Lib.hid Zb
      have KP : Hid (∀ W, Below wd.heap.size wd W → W.cell? ⟨g9, 0, none⟩ = some (.bool ba) ∧ W.cell? ⟨g9, 1, none⟩ = some (.slice Aa na ca) ∧ W.cell? ⟨g9 + 1, 0, none⟩ = some (.bool bb) ∧ W.cell? ⟨g9 + 1, 1, none⟩ = some (.slice Ab nb cb)) := fun W h =>
        ⟨(X7.below h X7.lt).at_ 0 rfl, (X7.below h X7.lt).at_ 1 rfl, (X8.below h X8.lt).at_ 0 rfl, (X8.below h X8.lt).at_ 1 rfl⟩
      clear hwd hg9 b8c X7 X8 hva hvb hba hbb hS lowa low0
      obtain ⟨p0, p1, p2, p3⟩ := KP.out _ (Below.refl _ _)
      have va0 := Za.out.v
      have vb0 := Zb.out.v
      obtain ⟨hcv, hzx, hzy, hzz, hzq, hzr, hes, hed, her⟩ := HEQ2.out
      have LX : Hid (∀ W s va, NV W s zx → ZV W va (lv l + lv m) → Calls Try.prog 12 #[s, va] W fun e w' => e = .returned (.bool true) ∧ Below W.heap.size W w') := fun W s va h1 h2 => limbed_nv s va zx W h1 (by rw [← hzx]; exact h2) (by rw [← hzx]; exact U.out.1)
      have LZ : Hid (∀ W s va, NV W s zz → ZV W va (lv l * lv m) → Calls Try.prog 12 #[s, va] W fun e w' => e = .returned (.bool true) ∧ Below W.heap.size W w') := fun W s va h1 h2 => limbed_nv s va zz W h1 (by rw [← hzz]; exact h2) (by rw [← hzz]; exact U.out.2.1)
      have e5 : (cv != cmpv (lv l) (lv m)) = false := by rw [hcv]; simp
      generalize hcq : cmpv (lv l) (lv m) = cq at CZ e5 hcv
      subst hcv
      have V : Hid (∀ W, Below wd.heap.size wd W → ZV W (.agg #[.bool ba, .slice Aa na ca]) (lv l) ∧ ZV W (.agg #[.bool bb, .slice Ab nb cb]) (lv m)) := fun W h => ⟨(Za.out.below h).v, (Zb.out.below h).v⟩
      have SX : Hid (∀ W, Below wd.heap.size wd W → _) := fun W h => S9.out.below h
      clear hzx hzz
      have LLn := lv_nonneg LL.out
      by_cases hlt : lv l < lv m
      · have hc1 : cq = -1 := by rw [← hcq]; exact Z.cmpv_lt hlt
        have hm0 : m ≠ [] := by intro h; rw [h] at hlt; simp [lv] at hlt; omega
        have hes1 : es = 1 := by rw [← hes]; unfold errSub; rw [if_pos her, if_pos hlt]
        have hed1 : ed = 0 := by rw [← hed]; unfold errDiv; rw [if_neg (by simpa using her), if_neg hm0]
        rw [hes, hes1, if_neg (by decide)] at hzy
        rw [hed, hed1, if_pos rfl] at hzq hzr
        have q2 : n2 = 0 := NV.zero (w := wd) (A := A2) (c := c2) (by have := S9.out.y; rw [← hzy] at this; exact this)
        have M0 := Lib.hid (show lv m ≠ 0 by omega)
        have y0 : ((y : Int) == 0) = false := by have := EY.out; have := List.length_pos_iff.2 hm0; simp; omega
        have dz0 : lv l / lv m = 0 := Int.ediv_eq_zero_of_lt LLn hlt
        have LQ : Hid (∀ W s va, NV W s zq → ZV W va (lv l / lv m) → Calls Try.prog 12 #[s, va] W fun e w' => e = .returned (.bool true) ∧ Below W.heap.size W w') := fun W s va h1 h2 => limbed_nv s va zq W h1 (by rw [← hzq]; exact h2) (by rw [← hzq]; exact Int.lt_of_le_of_lt (Int.ediv_le_self _ LLn) U.out.2.2.1)
        have LR : Hid (∀ W s va, NV W s zr → ZV W va (lv l % lv m) → Calls Try.prog 12 #[s, va] W fun e w' => e = .returned (.bool true) ∧ Below W.heap.size W w') := fun W s va h1 h2 => limbed_nv s va zr W h1 (by rw [← hzr]; exact h2) (by rw [← hzr]; exact Int.lt_trans (Int.emod_lt_of_pos _ (by omega)) U.out.2.2.2)
        subst hc1 hes1 hed1 q2
        clear hzy hzq hzr hes hed her hcq hlt hm0 dz0 LLn HEQ2 H12 U
        have D0 := Below.refl wd.heap.size wd
        go_upto_region 23 with (first 
          | (go_at_call 17; (with_reducible refine (CZ.out _ _ _ va0 vb0).mono ?_); rintro e w1 ⟨rfl, D1⟩; obtain ⟨q0, q1, q2, q3⟩ := KP.out _ D1)
          | (go_at_call 14; (with_reducible refine (CZA.out _ _ _ (V.out _ D1).1 (V.out _ D1).2).mono ?_); rintro e w2 ⟨_, rfl, ⟨b2, B2, m2, d2, rfl, hv2⟩, hb2⟩; have D2 := D1.trans (hb2.mono D1.size); have S2 := SX.out _ D2)
          | (go_at_call 12; (with_reducible refine (LX.out _ _ _ S2.x hv2.zl.v).mono ?_); rintro e w3 ⟨rfl, hb3⟩; have D3 := D2.trans (hb3.mono D2.size); obtain ⟨r0, r1, r2, r3⟩ := KP.out _ D3)
          | (go_at_call 15; (with_reducible refine (CZM.out _ _ _ (V.out _ D3).1 (V.out _ D3).2).mono ?_); rintro e w4 ⟨_, rfl, ⟨b4, B4, m4, d4, rfl, hv4⟩, hb4⟩; have D4 := D3.trans (hb4.mono D3.size); have S4 := SX.out _ D4)
          | (go_at_call 12; (with_reducible refine (LZ.out _ _ _ S4.z hv4.zl.v).mono ?_); rintro e w5 ⟨rfl, hb5⟩; have D5 := D4.trans (hb5.mono D4.size); obtain ⟨t0, t1, t2, t3⟩ := KP.out _ D5)
          | (go_at_call 19; (with_reducible refine (CZD.out _ _ _ M0.out (V.out _ D5).1 (V.out _ D5).2).mono ?_); rintro e w6 ⟨_, _, rfl, ⟨bq, Aq, nq, cq6, rfl, hq6⟩, ⟨br, Ar, nr, cr6, rfl, hr6⟩, hb6⟩; have D6 := D5.trans (hb6.mono D5.size)))
        have S6 := SX.out _ D6
        have b8c : Below w6.heap.size w6 ((w6.alloc (Obj.cells #[Value.bool bq, Value.slice Aq nq cq6] 34)).alloc (Obj.cells #[Value.bool br, Value.slice Ar nr cr6] 34)) := ((Below.refl _ _).alloc (Nat.le_refl _) _).alloc (by simp) _
        have X7 := (Blk.new w6 34 #[Value.bool bq, Value.slice Aq nq cq6]).alloc (Obj.cells #[Value.bool br, Value.slice Ar nr cr6] 34)
        have X8 := Blk.new (w6.alloc (Obj.cells #[Value.bool bq, Value.slice Aq nq cq6] 34)) 34 #[Value.bool br, Value.slice Ar nr cr6]
        rw [World.size_alloc] at X8
        have S6 := S6.below b8c
        have hq6 := hq6.below b8c
        have hr6 := hr6.below b8c
        obtain ⟨we, hwe⟩ : ∃ we, ((w6.alloc (Obj.cells #[Value.bool bq, Value.slice Aq nq cq6] 34)).alloc (Obj.cells #[Value.bool br, Value.slice Ar nr cr6] 34)) = we := ⟨_, rfl⟩
        obtain ⟨g7, hg7⟩ : ∃ g7, w6.heap.size = g7 := ⟨_, rfl⟩
        rw [hwe] at S6 hq6 hr6 X7 X8 ⊢
        rw [hg7] at X7 X8 ⊢
        have S6 := Lib.hid S6
        have HQ6 := Lib.hid hq6
        have HR6 := Lib.hid hr6
        have X8' := Lib.hid X8
        have X7' := Lib.hid X7
        clear hwe hg7 b8c hq6 hr6 X7 X8 S9 KP V SX CZ CZA CZM CZS CZD D6 hb6
        have r0 := X7'.out.at_ 0 rfl
        have r1 := X7'.out.at_ 1 rfl
        go_wp2_with (first | (go_at_call 12; (with_reducible refine (LQ.out _ _ _ S6.out.q HQ6.out.v).mono ?_); rintro e w7 ⟨rfl, hb7⟩ ; have s0 := (X8'.out.below hb7 X8'.out.lt).at_ 0 rfl ; have s1 := (X8'.out.below hb7 X8'.out.lt).at_ 1 rfl ; have R7 := (HR6.out.below hb7).v ; have S7 := S6.out.r.below hb7) | (go_at_call 12; (with_reducible refine (LR.out _ _ _ S7 R7).mono ?_); rintro e w8 ⟨rfl, hb8⟩))
        go_ret
        exact ⟨rfl, (S6.out.low.trans (hb7.mono S6.out.low.size)).trans (hb8.mono (Nat.le_trans S6.out.low.size hb7.size))⟩
      · have q0 := Z.cmpv_ge0 hlt
        rw [hcq] at q0
        have ec : decide (cq < 0) = false := by simp; omega
        have hes1 : es = 0 := by rw [← hes]; unfold errSub; rw [if_pos her, if_neg hlt]
        rw [hes, hes1, if_pos rfl] at hzy
        have LY : Hid (∀ W s va, NV W s zy → ZV W va (lv l - lv m) → Calls Try.prog 12 #[s, va] W fun e w' => e = .returned (.bool true) ∧ Below W.heap.size W w') := fun W s va h1 h2 => limbed_nv s va zy W h1 (by rw [← hzy]; exact h2) (by rw [← hzy]; have := U.out.2.2.1; have := lv_nonneg LM.out; omega)
        by_cases hm0 : m = []
        · have hed1 : ed = 1 := by rw [← hed]; unfold errDiv; rw [if_neg (by simpa using her), if_pos hm0]
          rw [hed, hed1, if_neg (by decide)] at hzq hzr
          have q4 : n4 = 0 := NV.zero (w := wd) (A := A4) (c := c4) (by have := S9.out.q; rw [← hzq] at this; exact this)
          have q5 : n5 = 0 := NV.zero (w := wd) (A := A5) (c := c5) (by have := S9.out.r; rw [← hzr] at this; exact this)
          have y0 : ((y : Int) == 0) = true := by have := EY.out; simp [hm0] at this; simp; omega
          have yz : y = 0 := by have := EY.out; simp [hm0] at this; exact this
          subst hes1 hed1 q4 q5 yz
          clear hzy hzq hzr hes hed her hcq hlt hm0 LLn HEQ2 H12 U q0
          go_wp2_with (first 
          | (go_at_call 17; (with_reducible refine (CZ.out _ _ _ va0 vb0).mono ?_); rintro e w1 ⟨rfl, D1⟩; obtain ⟨q0, q1, q2, q3⟩ := KP.out _ D1)
          | (go_at_call 14; (with_reducible refine (CZA.out _ _ _ (V.out _ D1).1 (V.out _ D1).2).mono ?_); rintro e w2 ⟨_, rfl, ⟨b2, B2, m2, d2, rfl, hv2⟩, hb2⟩; have D2 := D1.trans (hb2.mono D1.size); have S2 := SX.out _ D2)
          | (go_at_call 12; (with_reducible refine (LX.out _ _ _ S2.x hv2.zl.v).mono ?_); rintro e w3 ⟨rfl, hb3⟩; have D3 := D2.trans (hb3.mono D2.size); obtain ⟨r0, r1, r2, r3⟩ := KP.out _ D3)
          | (go_at_call 15; (with_reducible refine (CZM.out _ _ _ (V.out _ D3).1 (V.out _ D3).2).mono ?_); rintro e w4 ⟨_, rfl, ⟨b4, B4, m4, d4, rfl, hv4⟩, hb4⟩; have D4 := D3.trans (hb4.mono D3.size); have S4 := SX.out _ D4)
          | (go_at_call 12; (with_reducible refine (LZ.out _ _ _ S4.z hv4.zl.v).mono ?_); rintro e w5 ⟨rfl, hb5⟩; have D5 := D4.trans (hb5.mono D4.size); obtain ⟨t0, t1, t2, t3⟩ := KP.out _ D5)
          | (go_at_call 18; (with_reducible refine (CZS.out _ _ _ (V.out _ D5).1 (V.out _ D5).2).mono ?_); rintro e wf ⟨_, rfl, ⟨bf, Bf, mf, df, rfl, hvf⟩, hbf⟩; have Df := D5.trans (hbf.mono D5.size); have Sf := SX.out _ Df)
          | (go_at_call 12; (with_reducible refine (LY.out _ _ _ Sf.y hvf.zl.v).mono ?_); rintro e wg ⟨rfl, hbg⟩; have Dg := Df.trans (hbg.mono Df.size); obtain ⟨y0, y1, y2, y3⟩ := KP.out _ Dg))
          go_ret
          exact ⟨rfl, (SX.out _ Dg).low⟩
        · have hed1 : ed = 0 := by rw [← hed]; unfold errDiv; rw [if_neg (by simpa using her), if_neg hm0]
          rw [hed, hed1, if_pos rfl] at hzq hzr
          have y0 : ((y : Int) == 0) = false := by have := EY.out; have := List.length_pos_iff.2 hm0; simp; omega
          have mpos : 0 < lv m := by
            have a1 := lv_ge LM.out H12.out.2.2 hm0
            have a2 := pow_pos (m.length - 1)
            omega
          have M0 := Lib.hid (show lv m ≠ 0 by omega)
          have LQ : Hid (∀ W s va, NV W s zq → ZV W va (lv l / lv m) → Calls Try.prog 12 #[s, va] W fun e w' => e = .returned (.bool true) ∧ Below W.heap.size W w') := fun W s va h1 h2 => limbed_nv s va zq W h1 (by rw [← hzq]; exact h2) (by rw [← hzq]; exact Int.lt_of_le_of_lt (Int.ediv_le_self _ LLn) U.out.2.2.1)
          have LR : Hid (∀ W s va, NV W s zr → ZV W va (lv l % lv m) → Calls Try.prog 12 #[s, va] W fun e w' => e = .returned (.bool true) ∧ Below W.heap.size W w') := fun W s va h1 h2 => limbed_nv s va zr W h1 (by rw [← hzr]; exact h2) (by rw [← hzr]; exact Int.lt_trans (Int.emod_lt_of_pos _ mpos) U.out.2.2.2)
          subst hes1 hed1
          clear hzy hzq hzr hes hed her hcq hlt hm0 LLn HEQ2 H12 U q0 mpos
          go_upto_region 23 with (first 
            | (go_at_call 17; (with_reducible refine (CZ.out _ _ _ va0 vb0).mono ?_); rintro e w1 ⟨rfl, D1⟩; obtain ⟨q0, q1, q2, q3⟩ := KP.out _ D1)
            | (go_at_call 14; (with_reducible refine (CZA.out _ _ _ (V.out _ D1).1 (V.out _ D1).2).mono ?_); rintro e w2 ⟨_, rfl, ⟨b2, B2, m2, d2, rfl, hv2⟩, hb2⟩; have D2 := D1.trans (hb2.mono D1.size); have S2 := SX.out _ D2)
            | (go_at_call 12; (with_reducible refine (LX.out _ _ _ S2.x hv2.zl.v).mono ?_); rintro e w3 ⟨rfl, hb3⟩; have D3 := D2.trans (hb3.mono D2.size); obtain ⟨r0, r1, r2, r3⟩ := KP.out _ D3)
            | (go_at_call 15; (with_reducible refine (CZM.out _ _ _ (V.out _ D3).1 (V.out _ D3).2).mono ?_); rintro e w4 ⟨_, rfl, ⟨b4, B4, m4, d4, rfl, hv4⟩, hb4⟩; have D4 := D3.trans (hb4.mono D3.size); have S4 := SX.out _ D4)
            | (go_at_call 12; (with_reducible refine (LZ.out _ _ _ S4.z hv4.zl.v).mono ?_); rintro e w5 ⟨rfl, hb5⟩; have D5 := D4.trans (hb5.mono D4.size); obtain ⟨t0, t1, t2, t3⟩ := KP.out _ D5)
            | (go_at_call 18; (with_reducible refine (CZS.out _ _ _ (V.out _ D5).1 (V.out _ D5).2).mono ?_); rintro e wf ⟨_, rfl, ⟨bf, Bf, mf, df, rfl, hvf⟩, hbf⟩; have Df := D5.trans (hbf.mono D5.size); have Sf := SX.out _ Df)
            | (go_at_call 12; (with_reducible refine (LY.out _ _ _ Sf.y hvf.zl.v).mono ?_); rintro e wg ⟨rfl, hbg⟩; have Dg := Df.trans (hbg.mono Df.size); obtain ⟨y0, y1, y2, y3⟩ := KP.out _ Dg)
            | (go_at_call 19; (with_reducible refine (CZD.out _ _ _ M0.out (V.out _ Dg).1 (V.out _ Dg).2).mono ?_); rintro e w6 ⟨_, _, rfl, ⟨bq, Aq, nq, cq6, rfl, hq6⟩, ⟨br, Ar, nr, cr6, rfl, hr6⟩, hb6⟩; have D6 := Dg.trans (hb6.mono Dg.size)))
          have S6 := SX.out _ D6
          have b8c : Below w6.heap.size w6 ((w6.alloc (Obj.cells #[Value.bool bq, Value.slice Aq nq cq6] 34)).alloc (Obj.cells #[Value.bool br, Value.slice Ar nr cr6] 34)) := ((Below.refl _ _).alloc (Nat.le_refl _) _).alloc (by simp) _
          have X7 := (Blk.new w6 34 #[Value.bool bq, Value.slice Aq nq cq6]).alloc (Obj.cells #[Value.bool br, Value.slice Ar nr cr6] 34)
          have X8 := Blk.new (w6.alloc (Obj.cells #[Value.bool bq, Value.slice Aq nq cq6] 34)) 34 #[Value.bool br, Value.slice Ar nr cr6]
          rw [World.size_alloc] at X8
          have S6 := S6.below b8c
          have hq6 := hq6.below b8c
          have hr6 := hr6.below b8c
          obtain ⟨we, hwe⟩ : ∃ we, ((w6.alloc (Obj.cells #[Value.bool bq, Value.slice Aq nq cq6] 34)).alloc (Obj.cells #[Value.bool br, Value.slice Ar nr cr6] 34)) = we := ⟨_, rfl⟩
          obtain ⟨g7, hg7⟩ : ∃ g7, w6.heap.size = g7 := ⟨_, rfl⟩
          rw [hwe] at S6 hq6 hr6 X7 X8 ⊢
          rw [hg7] at X7 X8 ⊢
          have S6 := Lib.hid S6
          have HQ6 := Lib.hid hq6
          have HR6 := Lib.hid hr6
          have X8' := Lib.hid X8
          have X7' := Lib.hid X7
          clear hwe hg7 b8c hq6 hr6 X7 X8 S9 KP V SX CZ CZA CZM CZS CZD D6 hb6
          have r0 := X7'.out.at_ 0 rfl
          have r1 := X7'.out.at_ 1 rfl
          go_wp2_with (first | (go_at_call 12; (with_reducible refine (LQ.out _ _ _ S6.out.q HQ6.out.v).mono ?_); rintro e w7 ⟨rfl, hb7⟩ ; have s0 := (X8'.out.below hb7 X8'.out.lt).at_ 0 rfl ; have s1 := (X8'.out.below hb7 X8'.out.lt).at_ 1 rfl ; have R7 := (HR6.out.below hb7).v ; have S7 := S6.out.r.below hb7) | (go_at_call 12; (with_reducible refine (LR.out _ _ _ S7 R7).mono ?_); rintro e w8 ⟨rfl, hb8⟩))
          go_ret
          exact ⟨rfl, (S6.out.low.trans (hb7.mono S6.out.low.size)).trans (hb8.mono (Nat.le_trans S6.out.low.size hb7.size))⟩
    · rw [her] at hcv hzx hzz
      rw [if_neg h0] at hcv hzx hzz
      have es2 : es = er := by rw [← hes, ← her]; unfold errSub; rw [if_neg (by rw [her]; exact h0)]
      have ed2 : ed = er := by rw [← hed, ← her]; unfold errDiv; rw [if_pos (by rw [her]; exact h0)]
      rw [hes, es2, if_neg h0] at hzy
      rw [hed, ed2, if_neg h0] at hzq hzr
      rw [← hzx, ← hzz, ← hzy, ← hzq, ← hzr] at hS
      have q1 := NV.zero hS.out.x
      have q3 := NV.zero hS.out.z
      have q2 := NV.zero hS.out.y
      have q4 := NV.zero hS.out.q
      have q5 := NV.zero hS.out.r
      have low := hS.out.low
      have e1 : (er != 0) = true := by simp [h0]
      have e2 : (er == er) = true := by simp
      subst es2 ed2 q1 q2 q3 q4 q5
      subst hcv
      clear hS hzx hzy hzz hzq hzr hes hed her hek HEQ h0
      go_wp2
      go_ret
      exact ⟨rfl, low⟩
end NS
end Go.Proofs.Ytjihapnplfdmmaa
